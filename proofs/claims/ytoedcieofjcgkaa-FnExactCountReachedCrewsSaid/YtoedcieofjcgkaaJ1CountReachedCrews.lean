/-
  What is proved: least times over a graph are one, are the same there and back where each trip leads back in its time, and a search that settles all places (or one) that wait for the least time finds them. Conditions: each trip takes a time of at least 1.
  What is proved: plain facts on a search that takes places from a queue and puts those behind them, not yet reached, at its end: at its end it has the least numbers of moves. Conditions: as each says.
  What is proved: a contract of the program's place of a calm state. Conditions: the arguments are read as they lie.
  What is proved: the contract of the program's place of a crew's state. Conditions: the arguments are read as they lie.
  What is proved: that the model's rows, put in one by one, are the program's, in order. Conditions: at most four couples, at most four seats, a calm state.
  What is proved: contracts of the model's order of rows (cuBefore) and of its rows (cuRows). Conditions: the lists are read as they lie; at most four couples.
  What is proved: the contract of the model's paGroups: some people themselves and the rising lists that go on with others. Conditions: the lists are read as they lie; at most eight others, and at most eight to begin with.
  What is proved: plain facts on lists of lists that a call hands back. Conditions: none.
  What is proved: contracts of TripsOf, of the model and of the program. Conditions: the arguments are read as they lie.
  What is proved: which trips the lists of others are, and that each trip leads back in the time in which it led there. Conditions: as each says.
  What is proved: contracts of the model's and the library's search for a number in a list. Conditions: the list is read as it lies.
  What is proved: maps of numbers whose keys come out of a finite list, told by what they hold at each key: made, looked up, stored into, deleted from, counted, ranged over. Conditions: as each says.
  What is proved: maps of numbers told by what they hold at each key: a look-up as an equation, a store and a literal's entry as laws of one operation. Conditions: as each says.
  What is proved: the numbers of states: the torch, then the people, as digits, and back. Conditions: as each says.
  What is proved: a contract of the program's RideWithCrew. Conditions: the arguments are read as they lie.
  What is proved: a contract of the model's RowBoat. Conditions: the arguments are read as they lie.
  What is proved: a contract of the model's RowsOf. Conditions: the arguments are read as they lie.
  What is proved: a contract of the program's RowsOf. Conditions: the arguments are read as they lie.
  What is proved: a contract of the program's RidesOfCrew. Conditions: the arguments are read as they lie.
-/
import Derived.BigQuiet
import Derived.Deep.QuietTactic
import Derived.Deep.RegionHeld3
import Derived.Deep.DeepCutAuto
import Derived.Laws.AppendOwnNone
import Derived.Deep.CutBlock
import Derived.Maps.RangeWalk
import Derived.Maps.Ext
import Derived.Test.YtoedcieofjcgkaaJ7TeachPerson
set_option linter.unusedSimpArgs false
set_option linter.unusedVariables false
namespace Go.Proofs.Ytoedcieofjcgkaa

/-- Least times from a place: the place itself needs 0, no trip leads on sooner, and each other place that is reached has one before it. -/
structure Least {α : Type} (E : α → Int → α → Prop) (src : α) (d : α → Option Int) : Prop where
  start : d src = some 0
  edge : ∀ x t y a, d x = some a → E x t y → ∃ b, d y = some b ∧ b ≤ a + t
  pred : ∀ y b, d y = some b → (y = src ∧ b = 0) ∨ ∃ x t a, d x = some a ∧ E x t y ∧ b = a + t
  low : ∀ y b, d y = some b → 0 ≤ b

theorem least_le {α : Type} {E : α → Int → α → Prop} {src : α} {d1 d2 : α → Option Int} (hE : ∀ x t y, E x t y → 1 ≤ t) (h1 : Least E src d1) (h2 : Least E src d2) :
    ∀ (n : Nat) (y : α) (b : Int), b ≤ n → d1 y = some b → ∃ c, d2 y = some c ∧ c ≤ b := by
  intro n
  induction n with
  | zero =>
    intro y b hb hy
    rcases h1.pred y b hy with ⟨rfl, rfl⟩ | ⟨x, t, a, hx, he, rfl⟩
    · exact ⟨0, h2.start, Int.le_refl _⟩
    · have := h1.low x a hx
      have := hE _ _ _ he
      omega
  | succ n ih =>
    intro y b hb hy
    rcases h1.pred y b hy with ⟨rfl, rfl⟩ | ⟨x, t, a, hx, he, rfl⟩
    · exact ⟨0, h2.start, Int.le_refl _⟩
    · have := hE _ _ _ he
      obtain ⟨a', ha', hle⟩ := ih x a (by omega) hx
      obtain ⟨c, hc, hle2⟩ := h2.edge x t y a' ha' he
      exact ⟨c, hc, by omega⟩
theorem least_one {α : Type} {E : α → Int → α → Prop} {src : α} {d1 d2 : α → Option Int} (hE : ∀ x t y, E x t y → 1 ≤ t) (h1 : Least E src d1) (h2 : Least E src d2) : d1 = d2 := by
  funext y
  cases e1 : d1 y with
  | some b =>
    obtain ⟨c, hc, hle⟩ := least_le hE h1 h2 b.toNat y b (by omega) e1
    obtain ⟨b', hb', hle'⟩ := least_le hE h2 h1 c.toNat y c (by omega) hc
    rw [e1] at hb'
    obtain rfl : b = b' := by simpa using hb'
    rw [hc, show c = b by omega]
  | none =>
    cases e2 : d2 y with
    | none => rfl
    | some c =>
      obtain ⟨b, hb, -⟩ := least_le hE h2 h1 c.toNat y c (by omega) e2
      rw [e1] at hb
      cases hb
/-- Where each trip leads back in the same time: from one place to another it takes as long as back. -/
theorem least_via {α : Type} {E : α → Int → α → Prop} {s e : α} {ds de : α → Option Int} (hE : ∀ x t y, E x t y → 1 ≤ t) (hback : ∀ x t y, E x t y → E y t x) (hs : Least E s ds) (he : Least E e de) :
    ∀ (n : Nat) (y : α) (a b : Int), b ≤ n → ds y = some b → de y = some a → ∃ c, de s = some c ∧ c ≤ a + b := by
  intro n
  induction n with
  | zero =>
    intro y a b hb hy hya
    rcases hs.pred y b hy with ⟨rfl, rfl⟩ | ⟨x, t, a', hx, hed, rfl⟩
    · exact ⟨a, hya, by omega⟩
    · have := hs.low x a' hx
      have := hE _ _ _ hed
      omega
  | succ n ih =>
    intro y a b hb hy hya
    rcases hs.pred y b hy with ⟨rfl, rfl⟩ | ⟨x, t, a', hx, hed, rfl⟩
    · exact ⟨a, hya, by omega⟩
    · have := hE _ _ _ hed
      obtain ⟨c', hc', hle⟩ := he.edge y t x a hya (hback _ _ _ hed)
      obtain ⟨c, hc, hle2⟩ := ih x c' a' (by omega) hx hc'
      exact ⟨c, hc, by omega⟩
theorem least_turn {α : Type} {E : α → Int → α → Prop} {s e : α} {ds de : α → Option Int} (hE : ∀ x t y, E x t y → 1 ≤ t) (hback : ∀ x t y, E x t y → E y t x) (hs : Least E s ds) (he : Least E e de) : ds e = de s := by
  cases e1 : ds e with
  | some b =>
    obtain ⟨c, hc, hle⟩ := least_via hE hback hs he b.toNat e 0 b (by omega) e1 he.start
    obtain ⟨b', hb', hle'⟩ := least_via hE hback he hs c.toNat s 0 c (by omega) hc hs.start
    rw [e1] at hb'
    obtain rfl : b = b' := by simpa using hb'
    rw [hc, show c = b by omega]
  | none =>
    cases e2 : de s with
    | none => rfl
    | some c =>
      obtain ⟨b, hb, -⟩ := least_via hE hback he hs c.toNat s 0 c (by omega) e2 hs.start
      rw [e1] at hb
      cases hb

/-- A search under way: R holds what is settled, each trip from there told of; W what waits. -/
structure Seek {α : Type} (E : α → Int → α → Prop) (src : α) (R W : α → Option Int) : Prop where
  start : R src = some 0 ∨ (W src = some 0 ∧ ∀ x, R x = none)
  edge : ∀ x t y a, R x = some a → E x t y → ∃ b, (R y = some b ∨ W y = some b) ∧ b ≤ a + t
  pred : ∀ y b, R y = some b ∨ W y = some b → (y = src ∧ b = 0) ∨ ∃ x t a, R x = some a ∧ E x t y ∧ b = a + t
  low : ∀ y b, R y = some b ∨ W y = some b → 0 ≤ b
  far : ∀ x a y b, R x = some a → W y = some b → a ≤ b
  apart : ∀ x a, R x = some a → W x = none

/-- Before the first round. -/
theorem seek_start {α : Type} [DecidableEq α] (E : α → Int → α → Prop) (src : α) : Seek E src (fun _ => none) (fun x => if x = src then some 0 else none) where
  start := .inr ⟨by simp, fun _ => rfl⟩
  edge := fun _ _ _ _ h => by cases h
  pred := fun y b h => by
    rcases h with h | h
    · cases h
    · by_cases e : y = src
      · simp [e] at h
        exact .inl ⟨e, h.symm⟩
      · simp [e] at h
  low := fun y b h => by
    rcases h with h | h
    · cases h
    · by_cases e : y = src
      · simp [e] at h
        omega
      · simp [e] at h
  far := fun _ _ _ _ h => by cases h
  apart := fun _ _ h => by cases h
/-- When nothing waits any more, the least times are found. -/
theorem seek_end {α : Type} {E : α → Int → α → Prop} {src : α} {R W : α → Option Int} (h : Seek E src R W) (h0 : ∀ x, W x = none) : Least E src R where
  start := by
    rcases h.start with h1 | ⟨h1, -⟩
    · exact h1
    · rw [h0] at h1
      cases h1
  edge := fun x t y a hx he => by
    obtain ⟨b, hb | hb, hle⟩ := h.edge x t y a hx he
    · exact ⟨b, hb, hle⟩
    · rw [h0] at hb
      cases hb
  pred := fun y b hy => h.pred y b (.inl hy)
  low := fun y b hy => h.low y b (.inl hy)

/-- What waits behind a round that settles S at the time m: for each place that is not settled the least of what it waited for and of the trips from S. -/
structure SeekRound {α : Type} (E : α → Int → α → Prop) (R W : α → Option Int) (S : α → Prop) (m : Int) (R' W' : α → Option Int) : Prop where
  least : ∀ y b, W y = some b → m ≤ b
  took : ∀ x, S x → W x = some m
  some_ : ∃ x, S x
  settled : ∀ x, S x → R' x = some m
  kept : ∀ x, ¬ S x → R' x = R x
  gone : ∀ x a, R' x = some a → W' x = none
  relaxed : ∀ x t y, S x → E x t y → R' y = none → ∃ b, W' y = some b ∧ b ≤ m + t
  still : ∀ y b, W y = some b → R' y = none → ∃ c, W' y = some c ∧ c ≤ b
  from_ : ∀ y b, W' y = some b → (W y = some b ∧ R' y = none) ∨ ∃ x t, S x ∧ E x t y ∧ b = m + t
theorem seek_round {α : Type} {E : α → Int → α → Prop} {src : α} {R W R' W' : α → Option Int} {S : α → Prop} {m : Int} (hE : ∀ x t y, E x t y → 1 ≤ t) (h : Seek E src R W) (hr : SeekRound E R W S m R' W') : Seek E src R' W' := by
  have hup : ∀ x a, R x = some a → R' x = some a := fun x a hx => by
    have hn : ¬ S x := fun hs => by
      have h1 := hr.took x hs
      rw [h.apart x a hx] at h1
      cases h1
    rw [hr.kept x hn]
    exact hx
  have hback : ∀ x a, R' x = some a → (S x ∧ a = m) ∨ (¬ S x ∧ R x = some a) := fun x a hx => by
    by_cases hs : S x
    · have h1 := hr.settled x hs
      rw [hx] at h1
      exact .inl ⟨hs, by simpa using h1⟩
    · exact .inr ⟨hs, by rw [← hr.kept x hs]; exact hx⟩
  obtain ⟨x0, hx0⟩ := hr.some_
  have hw0 := hr.took x0 hx0
  have hm : ∀ x a, R' x = some a → a ≤ m := fun x a hx => by
    rcases hback x a hx with ⟨-, rfl⟩ | ⟨-, hx'⟩
    · exact Int.le_refl _
    · exact h.far x a x0 m hx' hw0
  have hm0 : 0 ≤ m := h.low x0 m (.inr hw0)
  have hlow : ∀ x a, R' x = some a → 0 ≤ a := fun x a hx => by
    rcases hback x a hx with ⟨-, rfl⟩ | ⟨-, hx'⟩
    · exact hm0
    · exact h.low x a (.inl hx')
  refine ⟨?_, fun x t y a hx he => ?_, fun y b hy => ?_, fun y b hy => ?_, fun x a y b hx hy => ?_, hr.gone⟩
  · rcases h.start with h1 | ⟨h1, h2⟩
    · exact .inl (hup _ _ h1)
    · left
      by_cases hs : S src
      · have h3 := hr.took src hs
        rw [h1] at h3
        obtain rfl : (0 : Int) = m := by simpa using h3
        exact hr.settled src hs
      · exfalso
        rcases h.pred x0 m (.inr hw0) with ⟨rfl, -⟩ | ⟨x, t, a, hx, -, -⟩
        · exact hs hx0
        · rw [h2] at hx
          cases hx
  · have ht := hE _ _ _ he
    rcases hback x a hx with ⟨hs, rfl⟩ | ⟨hs, hx'⟩
    · cases hy : R' y with
      | some b => exact ⟨b, .inl rfl, by have := hm y b hy; omega⟩
      | none =>
        obtain ⟨b, hb, hle⟩ := hr.relaxed x t y hs he hy
        exact ⟨b, .inr hb, hle⟩
    · obtain ⟨b, hb, hle⟩ := h.edge x t y a hx' he
      rcases hb with hb | hb
      · exact ⟨b, .inl (hup _ _ hb), hle⟩
      · cases hy : R' y with
        | some c =>
          rcases hback y c hy with ⟨hs', rfl⟩ | ⟨-, hy'⟩
          · have := hr.least y b hb
            exact ⟨_, .inl rfl, by omega⟩
          · rw [h.apart y c hy'] at hb
            cases hb
        | none =>
          obtain ⟨c, hc, hle'⟩ := hr.still y b hb hy
          exact ⟨c, .inr hc, by omega⟩
  · rcases hy with hy | hy
    · rcases hback y b hy with ⟨hs, rfl⟩ | ⟨-, hy'⟩
      · rcases h.pred y b (.inr (hr.took y hs)) with h1 | ⟨x, t, a, hx, he, h3⟩
        · exact .inl h1
        · exact .inr ⟨x, t, a, hup _ _ hx, he, h3⟩
      · rcases h.pred y b (.inl hy') with h1 | ⟨x, t, a, hx, he, h3⟩
        · exact .inl h1
        · exact .inr ⟨x, t, a, hup _ _ hx, he, h3⟩
    · rcases hr.from_ y b hy with ⟨hy', -⟩ | ⟨x, t, hs, he, rfl⟩
      · rcases h.pred y b (.inr hy') with h1 | ⟨x, t, a, hx, he, h3⟩
        · exact .inl h1
        · exact .inr ⟨x, t, a, hup _ _ hx, he, h3⟩
      · exact .inr ⟨x, t, m, hr.settled x hs, he, rfl⟩
  · rcases hy with hy | hy
    · exact hlow y b hy
    · rcases hr.from_ y b hy with ⟨hy', -⟩ | ⟨x, t, hs, he, rfl⟩
      · exact h.low y b (.inr hy')
      · have := hE _ _ _ he
        omega
  · have h1 := hm x a hx
    rcases hr.from_ y b hy with ⟨hy', -⟩ | ⟨x', t, hs, he, rfl⟩
    · have := hr.least y b hy'
      omega
    · have := hE _ _ _ he
      omega
end Go.Proofs.Ytoedcieofjcgkaa

namespace Go.Proofs.Ytoedcieofjcgkaa

/-- Each move counts one. -/
def One {α : Type} (E : α → α → Prop) : α → Int → α → Prop := fun x t y => t = 1 ∧ E x y
def put {α : Type} [DecidableEq α] (d : α → Option Int) (y : α) (v : Int) : α → Option Int := fun z => if z = y then some v else d z
theorem put_at {α : Type} [DecidableEq α] (d : α → Option Int) (y : α) (v : Int) : put d y v y = some v := by simp [put]
theorem put_off {α : Type} [DecidableEq α] {d : α → Option Int} {y z : α} {v : Int} (h : z ≠ y) : put d y v z = d z := by simp [put, h]

/-- Between two places: what is reached, what is done with, what waits. -/
structure Wave {α : Type} (E : α → α → Prop) (src : α) (d : α → Option Int) (dn : α → Prop) (queue : List α) : Prop where
  start : d src = some 0
  pred : ∀ y b, d y = some b → (y = src ∧ b = 0) ∨ ∃ x a, d x = some a ∧ E x y ∧ b = a + 1
  low : ∀ y b, d y = some b → 0 ≤ b
  done : ∀ x, dn x → ∀ y, E x y → ∃ a b, d x = some a ∧ d y = some b ∧ b ≤ a + 1
  cover : ∀ y b, d y = some b → dn y ∨ y ∈ queue
  known : ∀ y ∈ queue, ∃ b, d y = some b
  sorted : queue.Pairwise (fun x y => ∀ a b, d x = some a → d y = some b → a ≤ b)
  top : ∀ x rest, queue = x :: rest → ∀ a, d x = some a → ∀ y b, d y = some b → b ≤ a + 1
/-- In the midst of the moves from x. -/
structure Amid {α : Type} (E : α → α → Prop) (src : α) (d : α → Option Int) (dn : α → Prop) (x : α) (a : Int) (tried rest : List α) : Prop where
  start : d src = some 0
  pred : ∀ y b, d y = some b → (y = src ∧ b = 0) ∨ ∃ x a, d x = some a ∧ E x y ∧ b = a + 1
  low : ∀ y b, d y = some b → 0 ≤ b
  done : ∀ x, dn x → ∀ y, E x y → ∃ a b, d x = some a ∧ d y = some b ∧ b ≤ a + 1
  at_ : d x = some a
  tried : ∀ y ∈ tried, ∃ b, d y = some b ∧ b ≤ a + 1
  cover : ∀ y b, d y = some b → dn y ∨ y = x ∨ y ∈ rest
  known : ∀ y ∈ rest, ∃ b, d y = some b ∧ a ≤ b
  sorted : rest.Pairwise (fun x y => ∀ a b, d x = some a → d y = some b → a ≤ b)
  top : ∀ y b, d y = some b → b ≤ a + 1

section
variable {α : Type} {E : α → α → Prop} {src : α} {d : α → Option Int} {dn : α → Prop}
theorem wave_start [DecidableEq α] : Wave E src (put (fun _ => none) src 0) (fun _ => False) [src] where
  start := put_at _ _ _
  pred := fun y b h => by
    by_cases hy : y = src
    · subst hy; rw [put_at] at h; exact .inl ⟨rfl, by simpa using h.symm⟩
    · rw [put_off hy] at h; cases h
  low := fun y b h => by
    by_cases hy : y = src
    · subst hy; rw [put_at] at h; have : (0 : Int) = b := by simpa using h
      omega
    · rw [put_off hy] at h; cases h
  done := fun x h => absurd h (by simp)
  cover := fun y b h => by
    by_cases hy : y = src
    · exact .inr (by simp [hy])
    · rw [put_off hy] at h; cases h
  known := fun y h => by
    obtain rfl : y = src := by simpa using h
    exact ⟨0, put_at _ _ _⟩
  sorted := by simp
  top := fun x rest h a ha y b hb => by
    obtain ⟨rfl, -⟩ : src = x ∧ [] = rest := by simpa using h
    rw [put_at] at ha
    by_cases hy : y = src
    · subst hy; rw [put_at] at hb; have h1 : (0 : Int) = a := by simpa using ha
      have h2 : (0 : Int) = b := by simpa using hb
      omega
    · rw [put_off hy] at hb; cases hb
theorem wave_end (h : Wave E src d dn []) : Least (One E) src d where
  start := h.start
  edge := fun x t y a ha ⟨ht, he⟩ => by
    rcases h.cover x a ha with hd | hd
    · obtain ⟨a', b, h1, h2, h3⟩ := h.done x hd y he
      rw [ha] at h1
      obtain rfl : a = a' := by simpa using h1
      exact ⟨b, h2, by omega⟩
    · cases hd
  pred := fun y b hb => by
    rcases h.pred y b hb with h1 | ⟨x, a, h1, h2, h3⟩
    · exact .inl h1
    · exact .inr ⟨x, 1, a, h1, ⟨rfl, h2⟩, h3⟩
  low := h.low
theorem wave_amid {x : α} {rest : List α} (h : Wave E src d dn (x :: rest)) : ∃ a, Amid E src d dn x a [] rest := by
  obtain ⟨a, ha⟩ := h.known x (by simp)
  obtain ⟨s1, s2⟩ := List.pairwise_cons.1 h.sorted
  refine ⟨a, h.start, h.pred, h.low, h.done, ha, (fun y hy => by cases hy), fun y b hb => ?_, fun y hy => ?_, s2, fun y b hb => h.top x rest rfl a ha y b hb⟩
  · rcases h.cover y b hb with h1 | h1
    · exact .inl h1
    · rcases List.mem_cons.1 h1 with h2 | h2
      · exact .inr (.inl h2)
      · exact .inr (.inr h2)
  · obtain ⟨b, hb⟩ := h.known y (List.mem_cons_of_mem _ hy)
    exact ⟨b, hb, s1 y hy a b ha hb⟩
theorem amid_old {x y : α} {a b : Int} {tried rest : List α} (h : Amid E src d dn x a tried rest) (hy : d y = some b) : Amid E src d dn x a (tried ++ [y]) rest := by
  refine ⟨h.start, h.pred, h.low, h.done, h.at_, fun z hz => ?_, h.cover, h.known, h.sorted, h.top⟩
  rcases List.mem_append.1 hz with h1 | h1
  · exact h.tried z h1
  · obtain rfl : z = y := by simpa using h1
    exact ⟨b, hy, h.top _ _ hy⟩
theorem amid_new [DecidableEq α] {x y : α} {a : Int} {tried rest : List α} (h : Amid E src d dn x a tried rest) (he : E x y) (hy : d y = none) : Amid E src (put d y (a + 1)) dn x a (tried ++ [y]) (rest ++ [y]) := by
  have hk : ∀ {z : α} {b : Int}, d z = some b → put d y (a + 1) z = some b := fun {z b} hz => by
    rw [put_off, hz]
    intro hzy
    rw [hzy, hy] at hz
    cases hz
  have ho : ∀ {z : α} {b : Int}, put d y (a + 1) z = some b → (z = y ∧ b = a + 1) ∨ d z = some b := fun {z b} hz => by
    by_cases hzy : z = y
    · subst hzy
      rw [put_at] at hz
      exact .inl ⟨rfl, by simpa using hz.symm⟩
    · rw [put_off hzy] at hz
      exact .inr hz
  have ha0 := h.low x a h.at_
  refine ⟨hk h.start, fun z b hz => ?_, fun z b hz => ?_, fun z hz w hw => ?_, hk h.at_, fun z hz => ?_, fun z b hz => ?_, fun z hz => ?_, ?_, fun z b hz => ?_⟩
  · rcases ho hz with ⟨rfl, rfl⟩ | h1
    · exact .inr ⟨x, a, hk h.at_, he, rfl⟩
    · rcases h.pred z b h1 with h2 | ⟨w, c, h2, h3, h4⟩
      · exact .inl h2
      · exact .inr ⟨w, c, hk h2, h3, h4⟩
  · rcases ho hz with ⟨rfl, rfl⟩ | h1
    · omega
    · exact h.low z b h1
  · obtain ⟨p, q, h1, h2, h3⟩ := h.done z hz w hw
    exact ⟨p, q, hk h1, hk h2, h3⟩
  · rcases List.mem_append.1 hz with h1 | h1
    · obtain ⟨b, h2, h3⟩ := h.tried z h1
      exact ⟨b, hk h2, h3⟩
    · obtain rfl : z = y := by simpa using h1
      exact ⟨a + 1, put_at _ _ _, Int.le_refl _⟩
  · rcases ho hz with ⟨rfl, rfl⟩ | h1
    · exact .inr (.inr (by simp))
    · rcases h.cover z b h1 with h2 | h2 | h2
      · exact .inl h2
      · exact .inr (.inl h2)
      · exact .inr (.inr (List.mem_append_left _ h2))
  · rcases List.mem_append.1 hz with h1 | h1
    · obtain ⟨b, h2, h3⟩ := h.known z h1
      exact ⟨b, hk h2, h3⟩
    · obtain rfl : z = y := by simpa using h1
      exact ⟨a + 1, put_at _ _ _, by omega⟩
  · rw [List.pairwise_append]
    refine ⟨?_, by simp, fun z hz w hw p q hp hq => ?_⟩
    · refine h.sorted.imp_of_mem fun {z w} hz hw hs p q hp hq => ?_
      obtain ⟨p', h1, -⟩ := h.known z hz
      obtain ⟨q', h2, -⟩ := h.known w hw
      rw [hk h1] at hp
      rw [hk h2] at hq
      obtain rfl : p' = p := by simpa using hp
      obtain rfl : q' = q := by simpa using hq
      exact hs _ _ h1 h2
    · obtain rfl : w = y := by simpa using hw
      rw [put_at] at hq
      have hq' : a + 1 = q := by simpa using hq
      obtain ⟨p', h1, -⟩ := h.known z hz
      rw [hk h1] at hp
      obtain rfl : p' = p := by simpa using hp
      have := h.top z p' h1
      omega
  · rcases ho hz with ⟨rfl, rfl⟩ | h1
    · omega
    · exact h.top z b h1
theorem amid_end {x : α} {a : Int} {tried rest : List α} (h : Amid E src d dn x a tried rest) (hall : ∀ y, E x y → y ∈ tried) : Wave E src d (fun z => dn z ∨ z = x) rest where
  start := h.start
  pred := h.pred
  low := h.low
  done := fun z hz y he => by
    rcases hz with hz | rfl
    · exact h.done z hz y he
    · obtain ⟨b, h1, h2⟩ := h.tried y (hall y he)
      exact ⟨a, b, h.at_, h1, h2⟩
  cover := fun y b hb => by
    rcases h.cover y b hb with h1 | h1 | h1
    · exact .inl (.inl h1)
    · exact .inl (.inr h1)
    · exact .inr h1
  known := fun y hy => by
    obtain ⟨b, h1, -⟩ := h.known y hy
    exact ⟨b, h1⟩
  sorted := h.sorted
  top := fun z rest' hr c hc y b hb => by
    subst hr
    obtain ⟨c', h1, h2⟩ := h.known z (by simp)
    rw [hc] at h1
    obtain rfl : c = c' := by simpa using h1
    have := h.top y b hb
    omega

/-- How many of some places are not reached. -/
def unmet (U : List α) (d : α → Option Int) : Nat := (U.filter (fun z => (d z).isNone)).length
theorem unmet_put [DecidableEq α] {y : α} {v : Int} : ∀ {U : List α}, U.Nodup → y ∈ U → d y = none → unmet U (put d y v) + 1 = unmet U d
  | [], _, h, _ => by cases h
  | u :: U, hn, hm, hy => by
    obtain ⟨hu, hn'⟩ := List.nodup_cons.1 hn
    unfold unmet
    by_cases huy : u = y
    · subst huy
      have hsame : U.filter (fun z => (put d u v z).isNone) = U.filter (fun z => (d z).isNone) := List.filter_congr fun z hz => by
        rw [put_off (fun e => hu (by rw [← e]; exact hz))]
      rw [List.filter_cons_of_neg (by rw [put_at]; simp), List.filter_cons_of_pos (by rw [hy]; rfl), hsame]
      rfl
    · have hm' : y ∈ U := by
        rcases List.mem_cons.1 hm with e | e
        · exact absurd e.symm huy
        · exact e
      have ih := unmet_put (v := v) hn' hm' hy
      unfold unmet at ih
      cases hdu : d u with
      | none =>
        rw [List.filter_cons_of_pos (by rw [put_off huy, hdu]; rfl), List.filter_cons_of_pos (by rw [hdu]; rfl), List.length_cons, List.length_cons]
        omega
      | some b =>
        rw [List.filter_cons_of_neg (by rw [put_off huy, hdu]; simp), List.filter_cons_of_neg (by rw [hdu]; simp)]
        exact ih
end
end Go.Proofs.Ytoedcieofjcgkaa

namespace Go.Proofs.Ytoedcieofjcgkaa
open Go.RowKit

/-- What calmPlaceOf hands back. -/
def CalmPlacePost (a b : Int) (bs : List Bool) (t : Bool) (w : World) (e : Ending) (w' : World) : Prop :=
  ((isPlace a b bs t = true ∧ e = .returned (.tuple #[.agg (placeCells bs t), .bool (calmIn a b bs t)])) ∨ (isPlace a b bs t = false ∧ e = .returned (.tuple #[.agg (placeCells [] false), .bool false]))) ∧ Below w.heap.size w w'

end Go.Proofs.Ytoedcieofjcgkaa

namespace Go.Proofs.Ytoedcieofjcgkaa
open Go.RowKit

def CrewPlPost (ok : Bool) (sb : List Bool) (t : Bool) (w : World) (e : Ending) (w' : World) : Prop :=
  ((ok = true ∧ e = .returned (.tuple #[.agg (placeCells sb t), .bool true])) ∨ (ok = false ∧ e = .returned (.tuple #[.agg (placeCells [] false), .bool false]))) ∧ Below w.heap.size w w'
set_option maxHeartbeats 3200000 in
set_option maxRecDepth 100000 in
set_option linter.unusedVariables false in
theorem crewPlace_any (A : Option Addr) (n0 c0 : Nat) (B : Option Addr) (m d : Nat) (xs : List Int) (s : Int) (D : Option Addr) (q z : Nat) (sb : List Bool) (t : Bool) (w : World) (hA : Holds w A (nums xs)) (hD : Holds w D (bits sb)) (hx : xs.length = n0) (hqq : sb.length = q) (hn : n0 ≤ 9223372036854775807) (hq : q ≤ 9223372036854775807) :
    Calls Try.prog 73 #[.agg #[.slice A n0 c0, .slice B m d, .int .i64 s], .agg #[.slice D q z, .bool t]] w (CrewPlPost (crewState xs m s sb t) sb t w) := by
  have HX := Lib.hid hx
  have HQ := Lib.hid hqq
  have hc := ((Whole.fresh w 39 #[.slice A n0 c0, .slice B m d, .int .i64 s]).alloc (.cells #[.slice D q z, .bool t] 48)).alloc (.cells #[.bool false, .bool false, .bool false, .bool false, .bool false, .bool false, .bool false, .bool false, .bool false] 79)
  have hs := (Whole.fresh (w.alloc (.cells #[.slice A n0 c0, .slice B m d, .int .i64 s] 39)) 48 #[.slice D q z, .bool t]).alloc (.cells #[.bool false, .bool false, .bool false, .bool false, .bool false, .bool false, .bool false, .bool false, .bool false] 79)
  have hr := Whole.fresh ((w.alloc (.cells #[.slice A n0 c0, .slice B m d, .int .i64 s] 39)).alloc (.cells #[.slice D q z, .bool t] 48)) 79 #[.bool false, .bool false, .bool false, .bool false, .bool false, .bool false, .bool false, .bool false, .bool false]
  rw [World.size_alloc] at hs
  rw [World.size_alloc, World.size_alloc] at hr
  have ht := below3 w (.cells #[.slice A n0 c0, .slice B m d, .int .i64 s] 39) (.cells #[.slice D q z, .bool t] 48) (.cells #[.bool false, .bool false, .bool false, .bool false, .bool false, .bool false, .bool false, .bool false, .bool false] 79)
  cases hp : isCrew xs m s
  · have HO : Hid (crewState xs m s sb t = false) := by show _ = _; simp [crewState, hp]
    have HP := Lib.hid hp
    clear hp hx hqq
    go_enter Try.func73, Try.ntmps73
    go_wp2_with fail
    refine (isCrew_any A n0 c0 B m d xs s _ (by exact hA.below ht) HX.out hn).mono ?_
    rintro e w1 ⟨rfl, hb⟩
    rw [HP.out]
    replace ht := below_then ht hb ht.size
    replace hr := hr.below hb
    clear hb hc hs
    go_wp2_with (refine wpList_store_whole rfl 79 (.tmp 4) (.tmp 9) rfl (w.heap.size + 1 + 1) (placeCells [] false) rfl rfl 79 _ hr size_place rfl (place_one _ _) ?_; intro w2 hw2 ho2)
    obtain ⟨r0, r1, r2, r3, r4, r5, r6, r7, r8⟩ := place_cells hw2
    refine bodyPost_ret (v := .tuple #[.agg (placeCells [] false), .bool false]) (by simp [results, Try.results73, go_sem, r0, r1, r2, r3, r4, r5, r6, r7, r8, placeCells]) rfl ⟨.inr ⟨HO.out, rfl⟩, ho2.below ht (by omega)⟩
  have hok := isCrew_ok hp
  have h7 : n0 ≤ 8 := by have := hok.seven; omega
  have HP := Lib.hid hp
  cases hst : isState n0 sb t
  all_goals
    have HST := Lib.hid hst
    have HO : Hid (crewState xs m s sb t = isState n0 sb t) := by show _ = _; simp [crewState, hp, hx]
    clear hst
    go_enter Try.func73, Try.ntmps73
    go_wp2_with fail
    refine (isCrew_any A n0 c0 B m d xs s _ (by exact hA.below ht) HX.out hn).mono ?_
    rintro e w1 ⟨rfl, hb⟩
    rw [HP.out]
    replace ht := below_then ht hb ht.size
    replace hr := hr.below hb
    replace hs := hs.below hb
    replace hc := hc.below hb
    obtain ⟨c1, c2, c3⟩ := hc.cells3
    obtain ⟨d1, d2, -, -⟩ := hs.two
    clear hb
    go_wp2_with fail
  · refine (placeOf_no D n0 q z sb t w1 (by exact hD.below ht) HQ.out hq HST.out).mono ?_
    rintro e w2 ⟨rfl, hb⟩
    replace ht := below_then ht hb ht.size
    replace hr := hr.below hb
    clear hb c1 c2 c3 d1 d2 hc hs
    go_wp2_with (refine wpList_store_whole rfl 79 (.tmp 4) (.tmp 15) rfl (w.heap.size + 1 + 1) (placeCells [] false) rfl rfl 79 _ hr size_place rfl (place_one _ _) ?_; intro w3 hw2 ho2)
    obtain ⟨r0, r1, r2, r3, r4, r5, r6, r7, r8⟩ := place_cells hw2
    refine bodyPost_ret (v := .tuple #[.agg (placeCells [] false), .bool false]) (by simp [results, Try.results73, go_sem, r0, r1, r2, r3, r4, r5, r6, r7, r8, placeCells]) rfl ⟨.inr ⟨by rw [HO.out, HST.out], rfl⟩, ho2.below ht (by omega)⟩
  · refine (placeOf_yes D n0 q z sb t w1 (by exact hD.below ht) HQ.out h7 HST.out).mono ?_
    rintro e w2 ⟨rfl, hb⟩
    replace ht := below_then ht hb ht.size
    replace hr := hr.below hb
    clear hb c1 c2 c3 d1 d2 hc hs
    go_wp2_with (refine wpList_store_whole rfl 79 (.tmp 4) (.tmp 15) rfl (w.heap.size + 1 + 1) (placeCells sb t) rfl rfl 79 _ hr size_place rfl (place_one _ _) ?_; intro w3 hw2 ho2)
    obtain ⟨r0, r1, r2, r3, r4, r5, r6, r7, r8⟩ := place_cells hw2
    refine bodyPost_ret (v := .tuple #[.agg (placeCells sb t), .bool true]) (by simp [results, Try.results73, go_sem, r0, r1, r2, r3, r4, r5, r6, r7, r8, placeCells]) rfl ⟨.inl ⟨by rw [HO.out, HST.out], rfl⟩, ho2.below ht (by omega)⟩
end Go.Proofs.Ytoedcieofjcgkaa

namespace Go.Proofs.Ytoedcieofjcgkaa
open Go.RowKit

/-- Does a list come before another one? -/
def lexB : List Int → List Int → Bool
  | [], [] => false
  | [], _ :: _ => true
  | _ :: _, [] => false
  | a :: xs, b :: ys => if a = b then lexB xs ys else decide (a < b)
/-- Where a group goes among the first k of some. -/
def spotG (out : List Nat) (g : Nat) : Nat → Nat
  | 0 => 0
  | k + 1 => if lexB (listOf g) (listOf (out.getD k 0)) then spotG out g k else k + 1
def insG (out : List Nat) (g : Nat) : List Nat := out.take (spotG out g out.length) ++ [g] ++ out.drop (spotG out g out.length)
/-- The rows among the groups from g on, n of them, put into some. -/
def rowsM (k : Nat) (q : Int) (x : Nat) : Nat → Nat → List Nat → List Nat
  | 0, _, out => out
  | n + 1, g, out => rowsM k q x n (g + 1) (if canM k q x g then insG out g else out)
def rowsSame (k q x : Nat) : Bool := (rowsM k q x (2 ^ (2 * k) - 1) 1 []).map listOf == rowsIn k q (bitsOf (x / 2) (2 * k)) (bitAt x 0)
theorem rows_same1 : (List.range 4).all (fun q => (List.range 8).all fun x => !quiet 1 (bitAt (x / 2)) || rowsSame 1 (q + 1) x) = true := by decide +kernel
theorem rows_same2 : (List.range 4).all (fun q => (List.range 32).all fun x => !quiet 2 (bitAt (x / 2)) || rowsSame 2 (q + 1) x) = true := by decide +kernel
theorem rows_same3 : (List.range 4).all (fun q => (List.range 128).all fun x => !quiet 3 (bitAt (x / 2)) || rowsSame 3 (q + 1) x) = true := by decide +kernel
theorem rows_same4 : (List.range 4).all (fun q => (List.range 512).all fun x => !quiet 4 (bitAt (x / 2)) || rowsSame 4 (q + 1) x) = true := by decide +kernel
end Go.Proofs.Ytoedcieofjcgkaa

namespace Go.Proofs.Ytoedcieofjcgkaa
open Go.RowKit

theorem lexB_same {a b : List Int} {k : Nat} (ha : k < a.length) (hb : k < b.length) (he : a[k] = b[k]) : lexB (a.drop k) (b.drop k) = lexB (a.drop (k + 1)) (b.drop (k + 1)) := by
  rw [List.drop_eq_getElem_cons ha, List.drop_eq_getElem_cons hb, lexB, if_pos he]
theorem lexB_part {a b : List Int} {k : Nat} (ha : k < a.length) (hb : k < b.length) (he : a[k] ≠ b[k]) : lexB (a.drop k) (b.drop k) = decide (a[k] < b[k]) := by
  rw [List.drop_eq_getElem_cons ha, List.drop_eq_getElem_cons hb, lexB, if_neg he]
theorem lexB_end {a b : List Int} {k : Nat} (ha : k ≤ a.length) (hb : k ≤ b.length) (h : ¬ (k < a.length ∧ k < b.length)) : lexB (a.drop k) (b.drop k) = decide (a.length < b.length) := by
  by_cases h1 : k < a.length
  · have h2 : b.length ≤ k := by omega
    rw [List.drop_eq_getElem_cons h1, List.drop_of_length_le h2, lexB]
    simp; omega
  · have h2 : a.length ≤ k := by omega
    rw [List.drop_of_length_le h2]
    by_cases h3 : k < b.length
    · rw [List.drop_eq_getElem_cons h3, lexB]
      simp; omega
    · rw [List.drop_of_length_le (by omega), lexB]
      simp; omega

def ofN (l : List Nat) : List Int := l.map Int.ofNat
theorem ofN_len (l : List Nat) : (ofN l).length = l.length := by simp [ofN]
theorem rowsM_next (k : Nat) (q : Int) (x n g : Nat) (out : List Nat) : rowsM k q x (n + 1) g out = rowsM k q x n (g + 1) (if canM k q x g then insG out g else out) := rfl
theorem spotG_le (out : List Nat) (g : Nat) : ∀ k, spotG out g k ≤ k
  | 0 => Nat.le_refl _
  | k + 1 => by
    rw [spotG]
    split
    · have := spotG_le out g k; omega
    · omega
theorem insG_len (out : List Nat) (g : Nat) : (insG out g).length = out.length + 1 := by
  have := spotG_le out g out.length
  simp [insG]
  omega
theorem insG_mem {out : List Nat} {g b : Nat} (h : ∀ y ∈ out, y < b) (hg : g < b) : ∀ y ∈ insG out g, y < b := by
  intro y hy
  simp only [insG, List.mem_append, List.mem_singleton] at hy
  rcases hy with (hy | rfl) | hy
  · exact h y (List.mem_of_mem_take hy)
  · exact hg
  · exact h y (List.mem_of_mem_drop hy)

theorem listOf_le (g : Nat) : (listOf g).length ≤ 8 := by
  unfold listOf listTo
  rw [List.length_map]
  exact Nat.le_trans (List.length_filter_le _ _) (by simp)
theorem whole_grownR {w w' : World} {g : Nat} {ty : TypeId} {cs : Array Value} {row : Option Nat} (h : Whole w g ty cs) (hg : w.grownBy w' row) (hne : ¬ row = some g) : Whole w' g ty cs := (hg.block g h.lt (fun e => hne e.symm)).trans h

end Go.Proofs.Ytoedcieofjcgkaa

namespace Go.Proofs.Ytoedcieofjcgkaa
open Go.RowKit

/-- What one begins with, unless it is nobody. -/
def headOf (bs : List Int) : List (List Int) := if bs.length = 0 then [] else [bs]
def groups (m : Nat) (os bs : List Int) : List (List Int) := headOf bs ++ subs m os bs
/-- A list of lists under way. -/
def Under (G : List (List Int)) (m j lo : Nat) (os bs : List Int) (w : World) (v : Value) (wx : World) : Prop :=
  ∃ (E : Option Addr) (d : Nat) (acc : List RowV), v = .slice E acc.length d ∧ rowNums acc ++ subs m (os.drop j) bs = G ∧ (E = none → acc = [] ∧ d = 0) ∧ (∀ a, E = some a → a = ⟨a.block, 0, none⟩ ∧ 0 < acc.length) ∧ Heads wx lo E d acc ∧ Below lo w wx
theorem groups_next {m : Nat} {b o : List Int} {i : Nat} (hi : i < o.length) (h : b.length < m) : subs m (o.drop i) b = groups m (o.drop (i + 1)) (b ++ [o[i]]) ++ subs m (o.drop (i + 1)) b := by
  rw [subs_next hi h, groups, headOf, if_neg (by simp)]
  rfl

theorem holds_as {w : World} {A : Option Addr} {xs ys : List Value} (h : Holds w A xs) (e : xs = ys) : Holds w A ys := e ▸ h
theorem one_kept {w w' : World} {v : Value} {t : TypeId} (hb : Below (w.alloc (.cells #[v] t)).heap.size (w.alloc (.cells #[v] t)) w') : ∀ j u, [v][j]? = some u → w'.cell? ((⟨w.heap.size, 0, none⟩ : Addr).add j) = some u := fun j u hu => by
  rw [Addr.add_lit]
  refine (hb.cell (p := ⟨w.heap.size, 0 + j, none⟩) (by simp)).trans ?_
  have := cell_one_new w v t j u hu
  rwa [Addr.add_lit] at this
theorem subs_some {A : Option Addr} {c : Nat} {rs : List RowV} {G : List (List Int)} (hn : A = none → rs = [] ∧ c = 0) (hs : ∀ a, A = some a → a = ⟨a.block, 0, none⟩ ∧ 0 < rs.length) (hr : rowNums rs = G) (hp : 0 < G.length) : ∃ b, A = some ⟨b, 0, none⟩ ∧ 0 < rs.length := by
  cases A with
  | none =>
    obtain ⟨rfl, -⟩ := hn rfl
    rw [← hr] at hp
    simp [rowNums] at hp
  | some a =>
    obtain ⟨h1, h2⟩ := hs a rfl
    exact ⟨a.block, by rw [← h1], h2⟩
theorem rows_le {n b : Nat} {rs : List RowV} {G : List (List Int)} (h : n + G.length ≤ b) (hr : rowNums rs = G) : n + rs.length ≤ b := by
  rw [← hr, rowNums_len] at h
  exact h
theorem rows_len1 (rs : List RowV) : (rowVals rs).length = rs.length * 1 := by rw [rowVals_len, Nat.mul_one]
theorem heads_news {w : World} {lo b c : Nat} {rs : List RowV} (h : Heads w lo (some ⟨b, 0, none⟩) c rs) : ∀ j u, (rowVals rs)[j]? = some u → w.cell? ((⟨b, 0, none⟩ : Addr).add j) = some u := fun j u hu => by
  rw [Addr.add_lit]
  rcases holds_of_own h.1 with h | ⟨b', o, h, -, hcell⟩
  · rw [h] at hu; simp at hu
  · obtain ⟨rfl, rfl⟩ : b = b' ∧ 0 = o := by simpa using h
    exact hcell j u hu

set_option maxHeartbeats 6400000 in
set_option maxRecDepth 100000 in
theorem paGroups_any (m : Nat) (hm : m ≤ 8) : ∀ (g : Nat) (A B : Option Addr) (k z n c f : Nat) (bs os : List Int) (w : World), n - f < g → n ≤ 8 → f ≤ n → Holds w A (nums bs) → Holds w B (nums os) → bs.length = k → os.length = n → k ≤ m → (A = none → k = 0 ∧ z = 0) →
    Calls Try.prog 117 #[.slice B n c, .slice A k z, .int .i64 f, .int .i64 m] w (SubsPost (groups m (os.drop f) bs) w) := by
  intro g
  induction g with
  | zero => intro A B k z n c f bs os w hg; omega
  | succ g ih =>
    intro A B k z n c f bs os w hg hn8 hfn hA hB hk hn hkm hnil
    obtain ⟨i0, hi, hz0, hz1, hz2⟩ := info_parts info_int
    have HI := Lib.hid hi
    have HZ0 := Lib.hid hz0
    have HZ1 := Lib.hid hz1
    have HZ2 := Lib.hid hz2
    obtain ⟨i1, ri, rz0, rz1, rz2⟩ := info_parts info_row
    have RI := Lib.hid ri
    have RZ0 := Lib.hid rz0
    have RZ1 := Lib.hid rz1
    have RZ2 := Lib.hid rz2
    have HK := Lib.hid hk
    have HN := Lib.hid hn
    have HNIL := Lib.hid hnil
    have HIH := Lib.hid ih
    have hk8 : k ≤ 8 := by omega
    generalize hG : groups m (os.drop f) bs = G
    have HG := Lib.hid hG
    clear hi hz0 hz1 hz2 ri rz0 rz1 rz2 hk hn hnil ih hG
    go_enter Try.func117, Try.ntmps117
    go_upto_if 13 with fail
    go_cut [9] from 13 to 18 (fun s9 wx => Under G m f w.heap.size os bs w s9 wx)
    case first =>
      by_cases hk0 : k = 0
      · have hd : decide (0 < k) = false := by simp [hk0]
        have hd' : ¬ 0 < k := by omega
        have HB0 : Hid (bs = []) := List.length_eq_zero_iff.1 (by have := HK.out; omega)
        clear hk0
        go_wp2_with fail
        go_meet
        refine ⟨none, 0, [], rfl, ?_, fun _ => ⟨rfl, rfl⟩, fun a h => (by cases h), Heads.nil _ _, Below.refl _ _⟩
        rw [← HG.out, groups, headOf, HB0.out]
        rfl
      · have hd : decide (0 < k) = true := by simp; omega
        have hd' : 0 < k := by omega
        have HB0 : Hid (bs.length ≠ 0) := by show _ ≠ _; have := HK.out; omega
        clear hk0
        go_wp2_with fail
        refine (l1Own_any A k z bs _ hA HK.out (by omega) (fun h => (HNIL.out h).2)).mono ?_
        rintro e w1 ⟨A1, c1, rfl, hown1, hb1⟩
        rw [HK.out] at hown1 ⊢
        have hs1 : w.heap.size ≤ w1.heap.size := hb1.size
        have HO1 := Lib.hid hown1
        have HB1 := Lib.hid hb1
        have HZ := Lib.hid (show w.heap.size ≤ (w1.alloc (.cells #[.slice A1 k c1] 33)).heap.size by simp; omega)
        clear hown1 hb1
        go_wp2_with (at_builtin; refine wpList_append_lies _ rfl (.tmp 14) (.tmp 17) 24 rfl w.heap.size 33 i1 (.slice none 0 0) 1 24 Try.underlying24 RI.out RZ0.out RZ1.out RZ2.out rfl (by decide) (.slice none 0 0) 0 [] rfl (World.ownsRow_nil _ _ _ _) ⟨w1.heap.size, 0, none⟩ 1 1 [.slice A1 k c1] rfl rfl (cell_one_new _ _ _) (by simp [Value.oneCell']) (by decide) (by decide) (by decide) HZ.out (w1.heap.size + 1) (by simp) ?_; intro g3 c3 w3 hown3 hg3 hat3 hlt3)
        have hF := own_fresh0' HO1.out
        have hH3 := Heads.push (r := ⟨A1, k, c1, bs⟩) (Heads.nil w w.heap.size) (Nat.le_refl _) HB1.out hF HK.out (by show k ≤ _; omega) hown3 hg3 hat3
        have hb3 : Below w.heap.size w w3 := (HB1.out.alloc hs1 (.cells #[.slice A1 k c1] 33)).grown hg3 HZ.out (fun kk e => by simp [Value.ownBlock] at e)
        go_meet
        refine ⟨some ⟨g3, 0, none⟩, c3, [⟨A1, k, c1, bs⟩], rfl, ?_, fun h => (by cases h), fun a h => by obtain rfl := Option.some.inj h; exact ⟨rfl, by simp⟩, hH3, hb3⟩
        rw [← HG.out, groups, headOf, if_neg HB0.out]
        rfl
    case rest =>
      obtain ⟨E0, d0, acc0, rfl, hac0, hn0, hs0, hh0, hb0⟩ := hcut
      have HAC0 := Lib.hid hac0
      have HN0 := Lib.hid hn0
      have HS0 := Lib.hid hs0
      have HH0 := Lib.hid hh0
      have HB0 := Lib.hid hb0
      clear hac0 hn0 hs0 hh0 hb0
      by_cases hkm2 : k = m
      · subst hkm2
        have HR : Hid (rowNums acc0 = G) := by show _ = _; rw [← HAC0.out, subs_full (by have := HK.out; omega)]; simp
        go_wp2
        go_ret
        exact ⟨E0, d0, acc0, rfl, HR.out, HN0.out, HS0.out, HH0.out, HB0.out⟩
      · have hd1 : decide (k = m) = false := by simp [hkm2]
        have hne : ((k : Int) == (m : Int)) = false := by simp; omega
        have hkb : bs.length < m := by have := HK.out; omega
        have HKB := Lib.hid hkb
        have HKM := Lib.hid (show k + 1 ≤ m by omega)
        clear hkm2 hkb
        go_wp2_with fail
        go_loopw [9, 10] (fun v i wr => ∃ j : Nat, f ≤ j ∧ j ≤ n ∧ i = .int .i64 j ∧ Under G m j w.heap.size os bs w v wr) (fun _ i _ => n - (intOf i).toNat)
        case atStart => exact ⟨f, Nat.le_refl _, hfn, rfl, ⟨E0, d0, acc0, rfl, HAC0.out, HN0.out, HS0.out, HH0.out, HB0.out⟩⟩
        case round =>
          obtain ⟨j, hfj, hj, rfl, E, d, acc, rfl, hac, hEn, hEs, hh, hb⟩ := hrel
          clear HAC0 HN0 HS0 HH0 HB0
          by_cases hjn : j < n
          · have hjl : j < os.length := by have := HN.out; omega
            obtain ⟨b0, o0, rfl, hbl0, hcell0⟩ := hB.look (k := j) (by rw [nums_len]; exact hjl)
            simp only [nums, List.getElem_map] at hcell0
            have HNX : Hid (rowNums acc ++ groups m (os.drop (j + 1)) (bs ++ [os[j]]) ++ subs m (os.drop (j + 1)) bs = G) := by show _ = _; rw [List.append_assoc, ← groups_next hjl HKB.out]; exact hac
            have HAL : Hid (acc.length + (groups m (os.drop (j + 1)) (bs ++ [os[j]])).length ≤ 256) := by
              have h1 := congrArg List.length HNX.out
              have h2 := congrArg List.length HG.out
              have h3 := subs_small (m := m) (o := os.drop f) (b := bs) (by have := HN.out; simp; omega)
              have h4 : (headOf bs).length ≤ 1 := by unfold headOf; split <;> simp
              simp only [List.length_append, rowNums_len, groups] at h1 h2
              show _ ≤ _
              simp only [List.length_append, groups]
              omega
            have HPOS : Hid (0 < (groups m (os.drop (j + 1)) (bs ++ [os[j]])).length) := by show _ < _; simp [groups, headOf]
            have HH := Lib.hid hh
            have HB := Lib.hid hb
            have hbs : w.heap.size ≤ wr.heap.size := hb.size
            have hA1 := hA.below hb
            have hcell : wr.cell? ⟨b0, o0 + j, none⟩ = some (.int .i64 os[j]) := (hb.cell (p := ⟨b0, o0 + j, none⟩) hbl0).trans hcell0
            have HBL0 := Lib.hid hbl0
            have HBW := Lib.hid hB
            have hdl : (os.drop (j + 1)).length = n - (j + 1) := by have := HN.out; simp; omega
            generalize hx : os[j] = x at hcell hcell0 HNX HAL HPOS
            have hFl : (bs ++ [x]).length = k + 1 := by have := HK.out; simp; omega
            have HFL := Lib.hid hFl
            have HDL := Lib.hid hdl
            have HM1 := Lib.hid (show k + 1 ≤ maxLen by unfold maxLen; omega)
            have HY1 := Lib.hid (show (k + 1) * 8 ≤ 140737488355328 by omega)
            have hwj : IntKind.i64.wrap ((j : Int) + 1) = (j : Int) + 1 := IntWalk.i64_in _ (by omega)
            have hcast : ((j : Int) + 1) = ((j + 1 : Nat) : Int) := by omega
            have HCAST := Lib.hid hcast
            have hnx : nums bs ++ [Value.int .i64 x] = nums (bs ++ [x]) := by simp [nums]
            have HNM := Lib.hid hnx
            have hcellw := hcell0
            clear hac hEn hEs hh hb hx hdl hFl hcast hnx hcell0 hbl0
            go_upto_block 1 with fail
            go_cut [9] from 31 to 45 (fun s9 wx => Under G m (j + 1) w.heap.size os bs w s9 wx)
            case first =>
              go_wp2_with fail
              go_region_held3 (fun w' => w'.cell? ⟨b0, o0 + j, none⟩ = some (.int .i64 x)) (go_keep)
                (first | (go_at_call 106; refine (l1Own_any A k z bs _ (by with_reducible exact hA1.drew) HK.out (by omega) (fun h => (HNIL.out h).2)).mono ?_; rintro e w1 ⟨A1, c1, rfl, hown1, hb1⟩; rw [HK.out] at hown1 ⊢; have hc1 : Below wr.heap.size wr w1 := (by first | exact below_then (Below.refl wr.heap.size wr).drew hb1 (Nat.le_refl _)); have hs1 : wr.heap.size ≤ w1.heap.size := hc1.size; have hcx := (hc1.cell (p := ⟨b0, o0 + j, none⟩) (Nat.lt_of_lt_of_le HBL0.out hbs)).trans hcell; have HO1 := Lib.hid (hown1.alloc (.cells #[.int .i64 x] 3)); have HCB1 := Lib.hid (hc1.alloc hs1 (.cells #[.int .i64 x] 3)); have HZ1' := Lib.hid (show wr.heap.size ≤ (w1.alloc (.cells #[.int .i64 x] 3)).heap.size from (by simp; omega)); clear hown1 hb1 hc1) | (go_at_call 106; refine (l1Own_any A k z bs _ (by with_reducible exact (hA1.alloc _).drew) HK.out (by omega) (fun h => (HNIL.out h).2)).mono ?_; rintro e w1 ⟨A1, c1, rfl, hown1, hb1⟩; rw [HK.out] at hown1 ⊢; have hb1' : Below (wr.alloc (.cells #[.int .i64 x] 3)).heap.size (wr.alloc (.cells #[.int .i64 x] 3)) w1 := below_then (Below.refl _ _).drew hb1 (Nat.le_refl _); have hc1 : Below wr.heap.size wr w1 := below_then ((Below.refl wr.heap.size wr).alloc (Nat.le_refl _) (.cells #[.int .i64 x] 3)) hb1' (by simp); have hs1 : wr.heap.size ≤ w1.heap.size := hc1.size; have hcx := (hc1.cell (p := ⟨b0, o0 + j, none⟩) (Nat.lt_of_lt_of_le HBL0.out hbs)).trans hcell; have HOB := Lib.hid (own_lower (base' := wr.heap.size) hown1 (show wr.heap.size ≤ (wr.alloc (.cells #[.int .i64 x] 3)).heap.size from (by simp))); have HCB := Lib.hid hc1; have HNB := Lib.hid (one_kept hb1'); clear hb1'; clear hown1 hb1 hc1) | (refine step_append_lies _ rfl (.tmp 34) (.tmp 39) 33 rfl wr.heap.size 3 i0 (.int .i64 0) 1 8 Try.underlying33 HI.out HZ0.out HZ1.out HZ2.out rfl (by decide) (.slice A1 k c1) k (nums bs) (by simp [Act.eval]) HO1.out ⟨w1.heap.size, 0, none⟩ 1 1 [.int .i64 x] (by simp [Act.eval]) rfl (cell_one_new _ _ _) (by simp [Value.oneCell']) (by decide) HM1.out HY1.out HZ1'.out (w1.heap.size + 1) (by simp) ?_; intro g2 c2 w2 hown2 hg2 hat2 hlt2; have hc2 : Below wr.heap.size wr w2 := HCB1.out.grown hg2 HZ1'.out (fun kk e => (HO1.out.lt kk e).1); have hs2 : wr.heap.size ≤ w2.heap.size := hc2.size; have hcx2 := (hc2.cell (p := ⟨b0, o0 + j, none⟩) (Nat.lt_of_lt_of_le HBL0.out hbs)).trans hcell; have HL2 : Hid (Holds w2 (some ⟨g2, 0, none⟩) (nums (bs ++ [x]))) := holds_as (own_fresh0' hown2).holds HNM.out; have HW2 := Lib.hid ((HBW.out.below HB.out).below hc2); have HC2 := Lib.hid hc2; clear hown2 hg2 hat2 hc2) | (refine step_append_lies _ rfl (.tmp 34) (.tmp 39) 33 rfl wr.heap.size 3 i0 (.int .i64 0) 1 8 Try.underlying33 HI.out HZ0.out HZ1.out HZ2.out rfl (by decide) (.slice A1 k c1) k (nums bs) (by simp [Act.eval]) HOB.out ⟨wr.heap.size, 0, none⟩ 1 1 [.int .i64 x] (by simp [Act.eval]) rfl HNB.out (by simp [Value.oneCell']) (by decide) HM1.out HY1.out hs1 w1.heap.size rfl ?_; intro g2 c2 w2 hown2 hg2 hat2 hlt2; have hc2 : Below wr.heap.size wr w2 := HCB.out.grown hg2 hs1 (fun kk e => (HOB.out.lt kk e).1); have hs2 : wr.heap.size ≤ w2.heap.size := hc2.size; have hcx2 := (hc2.cell (p := ⟨b0, o0 + j, none⟩) (Nat.lt_of_lt_of_le HBL0.out hbs)).trans hcell; have HL2 : Hid (Holds w2 (some ⟨g2, 0, none⟩) (nums (bs ++ [x]))) := holds_as (own_fresh0' hown2).holds HNM.out; have HW2 := Lib.hid ((HBW.out.below HB.out).below hc2); have HC2 := Lib.hid hc2; clear hown2 hg2 hat2 hc2) | (go_at_call 117; have hcall := HIH.out (some ⟨g2, 0, none⟩) (some ⟨b0, o0, none⟩) (k + 1) c2 n c (j + 1) (bs ++ [x]) os w2 (by omega) hn8 (by omega) HL2.out HW2.out HFL.out HN.out HKM.out (fun h => (by cases h)); rw [← HCAST.out] at hcall; refine hcall.mono ?_; clear hcall; rintro e w4 ⟨A4, c4, rs4, rfl, hr4, hn4, hs4, hh4, hb4⟩; obtain ⟨b4, rfl, hp4⟩ := subs_some hn4 hs4 hr4 HPOS.out; have hc4 : Below wr.heap.size wr w4 := below_then HC2.out hb4 hs2; have hcx4 := (hc4.cell (p := ⟨b0, o0 + j, none⟩) (Nat.lt_of_lt_of_le HBL0.out hbs)).trans hcell; have hs4' : wr.heap.size ≤ w4.heap.size := hc4.size; have HR4 := Lib.hid hr4; have HH4 := Lib.hid (hh4.raise hs2); have HC4 := Lib.hid hc4; have HOA := Lib.hid (HH.out.below hc4).1; have HP4 := Lib.hid hp4; have HL4 : Hid (acc.length + rs4.length ≤ 256) := rows_le HAL.out hr4; have HM4 := Lib.hid (show acc.length + rs4.length ≤ maxLen from (by have := HL4.out; unfold maxLen; omega)); have HY4 := Lib.hid (show (acc.length + rs4.length) * 24 ≤ 140737488355328 from (by have := HL4.out; omega)); have HZ4 := Lib.hid (show w.heap.size ≤ w4.heap.size from (by omega)); clear hr4 hn4 hs4 hh4 hb4 hc4 hp4) | (refine step_append_lies _ rfl (.tmp 31) (.tmp 44) 24 rfl w.heap.size 33 i1 (.slice none 0 0) 1 24 Try.underlying24 RI.out RZ0.out RZ1.out RZ2.out rfl (by decide) (.slice E acc.length d) acc.length (rowVals acc) (by simp [Act.eval]) HOA.out ⟨b4, 0, none⟩ rs4.length c4 (rowVals rs4) (by simp [Act.eval]) (rows_len1 rs4) (heads_news HH4.out) (rowVals_one rs4) HP4.out HM4.out HY4.out HZ4.out w4.heap.size rfl ?_; intro g5 c5 w5 hown5 hg5 hat5 hlt5; have HJ := Lib.hid (Heads.join HH.out hbs HC4.out HH4.out hown5 hg5 hat5); have HB5 := Lib.hid ((below_then HB.out HC4.out hbs).grown hg5 HZ4.out (fun kk e => (HOA.out.lt kk e).1)); have hcx5 : w5.cell? ⟨b0, o0 + j, none⟩ = some (.int .i64 x) := (HB5.out.cell (p := ⟨b0, o0 + j, none⟩) HBL0.out).trans hcellw; clear hown5 hg5 hat5 hlt5) | fail)
              all_goals (go_wp2_with fail; go_meet)
              all_goals exact ⟨some ⟨g5, 0, none⟩, c5, acc ++ rs4, by rw [List.length_append], by rw [show rowNums (acc ++ rs4) = rowNums acc ++ rowNums rs4 by simp [rowNums], HR4.out]; exact HNX.out, fun h => (by cases h), fun a h => by obtain rfl := Option.some.inj h; exact ⟨rfl, by rw [List.length_append]; have := HP4.out; omega⟩, HJ.out, HB5.out⟩
            case rest =>
              obtain ⟨E', d', acc', rfl, r1, r2, r3, r4, r5⟩ := hcut
              have HR1 := Lib.hid r1
              have HR2 := Lib.hid r2
              have HR3 := Lib.hid r3
              have HR4 := Lib.hid r4
              have HR5 := Lib.hid r5
              clear r1 r2 r3 r4 r5
              go_wp2
              go_roundw
              case rel => exact ⟨j + 1, by omega, by omega, by go_num, E', d', acc', rfl, HR1.out, HR2.out, HR3.out, HR4.out, HR5.out⟩
              case measure => simp [intOf]; omega
          · obtain rfl : j = n := by omega
            have HR : Hid (rowNums acc = G) := by show _ = _; rw [← hac, List.drop_eq_nil_of_le (by have := HN.out; omega)]; simp [subs]
            have HH := Lib.hid hh
            have HEN := Lib.hid hEn
            have HES := Lib.hid hEs
            clear hac hh hEn hEs
            go_wp2
            go_ret
            exact ⟨E, d, acc, rfl, HR.out, HEN.out, HES.out, HH.out, hb⟩
end Go.Proofs.Ytoedcieofjcgkaa

namespace Go.Proofs.Ytoedcieofjcgkaa
open Go.RowKit

/-- What a call hands back that makes a list of lists and tells whether it did. -/
def BackPost (ls : List (List Int)) (ok : Bool) (w : World) (e : Ending) (w' : World) : Prop :=
  ∃ (A : Option Addr) (n c : Nat) (rs : List RowV), e = .returned (.tuple #[.slice A n c, .bool ok]) ∧ rowNums rs = ls ∧ rs.length = n ∧ FreeGrid w' w.heap.size w'.heap.size A rs ∧ Below w.heap.size w w'
theorem BackPost.no {w w' : World} (h : Below w.heap.size w w') : BackPost [] false w (.returned (.tuple #[.slice none 0 0, .bool false])) w' :=
  ⟨none, 0, 0, [], rfl, rfl, rfl, (Heads.nil w' w.heap.size).free, h⟩
theorem part_lens {w : World} {A : Option Addr} {rs : List RowV} (h : Grid w A rs) : part rs rs.length = ((rowNums rs).map List.length).sum := by
  rw [part_sum]
  have : ∀ ts : List RowV, (∀ r ∈ ts, r.xs.length = r.n) → ts.map RowV.n = (rowNums ts).map List.length := by
    intro ts ht
    simp only [rowNums, List.map_map]
    exact List.map_congr_left fun r hr => (ht r hr).symm
  rw [this rs fun r hr => (h.2 r hr).2.1]
theorem sum_lens {ls : List (List Int)} {k : Nat} (h : ∀ l ∈ ls, l.length ≤ k) : (ls.map List.length).sum ≤ k * ls.length := by
  induction ls with
  | nil => simp
  | cons l ls ih =>
    have h1 := h l (by simp)
    have h2 := ih fun x hx => h x (List.mem_cons_of_mem _ hx)
    rw [List.map_cons, List.sum_cons, List.length_cons, Nat.mul_succ]
    omega
end Go.Proofs.Ytoedcieofjcgkaa

namespace Go.Proofs.Ytoedcieofjcgkaa
open Go.RowKit

/-- All trips in a state. -/
def tripsIn (n : Nat) (s : Int) (bs : List Bool) (t : Bool) : List (List Int) := subs s.toNat (hereTo bs t n) []

end Go.Proofs.Ytoedcieofjcgkaa

namespace Go.Proofs.Ytoedcieofjcgkaa
open Go.RowKit

theorem here_range (bs : List Bool) (t : Bool) (n : Nat) : hereTo bs t n = ((List.range n).map Int.ofNat).filter (fun k => bs.getD k.toNat false == t) := by
  rw [hereTo, List.filter_map]
  rfl
/-- The trips in a state are those of all lists of people whose people are where the torch is. -/
theorem trips_mem (n : Nat) (s : Int) (bs : List Bool) (t : Bool) (l : List Int) :
    l ∈ tripsIn n s bs t ↔ l ∈ subs s.toNat ((List.range n).map Int.ofNat) [] ∧ ∀ k ∈ l, bs.getD k.toNat false = t := by
  rw [tripsIn, subs_mem, subs_mem]
  constructor
  · rintro ⟨c, hc, hne, hs, hl⟩
    rw [List.nil_append] at hc
    subst hc
    rw [here_range] at hs
    refine ⟨⟨l, by simp, hne, hs.trans List.filter_sublist, hl⟩, fun k hk => ?_⟩
    have := hs.subset hk
    simpa using (List.mem_filter.1 this).2
  · rintro ⟨⟨c, hc, hne, hs, hl⟩, hall⟩
    rw [List.nil_append] at hc
    subst hc
    refine ⟨l, by simp, hne, ?_, hl⟩
    rw [here_range]
    have h := hs.filter (fun k => bs.getD k.toNat false == t)
    rwa [List.filter_eq_self.2 (fun k hk => by simpa using hall k hk)] at h
theorem trips_in (n : Nat) (s : Int) (bs : List Bool) (t : Bool) {l : List Int} (h : l ∈ tripsIn n s bs t) : l ≠ [] ∧ ∀ k ∈ l, 0 ≤ k ∧ k < n := by
  rw [trips_mem, subs_mem] at h
  obtain ⟨⟨c, hc, hne, hs, -⟩, -⟩ := h
  rw [List.nil_append] at hc
  subst hc
  refine ⟨hne, fun k hk => ?_⟩
  have := hs.subset hk
  simp only [List.mem_map, List.mem_range] at this
  obtain ⟨j, hj, rfl⟩ := this
  exact ⟨Int.natCast_nonneg j, by show (j : Int) < n; omega⟩
theorem flipped_twice (bs : List Bool) (l : List Int) : flipped (flipped bs l) l = bs := by
  refine List.ext_getElem? fun i => ?_
  by_cases h : i < bs.length
  · rw [flipped_at _ l (by rw [flipped_len]; exact h), flipped_get bs l h, List.getElem?_eq_getElem h]
    have : bs.getD i false = bs[i] := by simp [h]
    rw [this]
    cases bs[i] <;> cases has l i <;> rfl
  · rw [List.getElem?_eq_none (by rw [flipped_len, flipped_len]; omega), List.getElem?_eq_none (by omega)]
/-- A trip of a party of n from a place to a place, with its time. -/
def Leg (xs : List Int) (n : Nat) (s : Int) (a : List Bool × Bool) (t : Int) (b : List Bool × Bool) : Prop :=
  a.1.length = n ∧ ∃ l, l ∈ tripsIn n s a.1 a.2 ∧ t = slowOf xs l ∧ b = (flipped a.1 l, !a.2)
theorem leg_back {xs : List Int} {n : Nat} {s t : Int} {a b : List Bool × Bool} (h : Leg xs n s a t b) : Leg xs n s b t a := by
  obtain ⟨hn, l, hl, rfl, rfl⟩ := h
  obtain ⟨bs, o⟩ := a
  dsimp only at hn hl
  refine ⟨by rw [flipped_len]; exact hn, l, ?_, rfl, by rw [flipped_twice, Bool.not_not]⟩
  have hin := (trips_in n s bs o hl).2
  rw [trips_mem] at hl ⊢
  refine ⟨hl.1, fun k hk => ?_⟩
  have hb := hin k hk
  show (flipped bs l).getD k.toNat false = !o
  rw [flipped_get bs l (by omega), hl.2 k hk]
  have : has l k.toNat = true := has_iff.2 (by rw [Int.toNat_of_nonneg hb.1]; exact hk)
  rw [this]
  cases o <;> rfl
theorem foldl_max (f : List Int) (a : Int) : a ≤ f.foldl max a ∧ ∀ x ∈ f, x ≤ f.foldl max a := by
  induction f generalizing a with
  | nil => exact ⟨Int.le_refl _, fun _ h => by cases h⟩
  | cons y f ih =>
    obtain ⟨h1, h2⟩ := ih (max a y)
    refine ⟨by have := h1; simp only [List.foldl_cons]; omega, fun x hx => ?_⟩
    rcases List.mem_cons.1 hx with rfl | hx
    · simp only [List.foldl_cons]; omega
    · exact h2 x hx
theorem leg_time {xs : List Int} {n : Nat} {s t : Int} {a b : List Bool × Bool} (hx : xs.length = n) (hxs : ∀ y ∈ xs, 1 ≤ y) (h : Leg xs n s a t b) : 1 ≤ t := by
  obtain ⟨-, l, hl, rfl, -⟩ := h
  obtain ⟨hne, hin⟩ := trips_in n s a.1 a.2 hl
  obtain ⟨k, r, rfl⟩ := List.exists_cons_of_ne_nil hne
  have hk := hin k (by simp)
  have hkx : k.toNat < xs.length := by omega
  have h1 := hxs _ (List.getElem_mem hkx)
  have h2 := (foldl_max ((k :: r).map fun k => xs.getD k.toNat 0) 0).2 (xs.getD k.toNat 0) (by simp)
  have h3 : xs.getD k.toNat 0 = xs[k.toNat] := by simp [hkx]
  rw [h3] at h2
  exact Int.le_trans h1 h2
/-- From one state to another it takes as long as back, however each is searched for. -/
theorem leg_turn {xs : List Int} {n : Nat} {s : Int} {a b : List Bool × Bool} {da db : List Bool × Bool → Option Int} (hx : xs.length = n) (hxs : ∀ y ∈ xs, 1 ≤ y) (ha : Least (Leg xs n s) a da) (hb : Least (Leg xs n s) b db) : da b = db a :=
  least_turn (fun _ _ _ h => leg_time hx hxs h) (fun _ _ _ h => leg_back h) ha hb
end Go.Proofs.Ytoedcieofjcgkaa

namespace Go.Proofs.Ytoedcieofjcgkaa
open Go.RowKit

def hasK (l : List Int) (x : Int) : Bool := l.contains x

set_option maxHeartbeats 800000 in
theorem l1Has_any (A : Option Addr) (n c : Nat) (l : List Int) (x : Int) (w : World) (hA : Holds w A (nums l)) (hx : l.length = n) (hn : n ≤ 1048576) :
    Calls Try.prog 103 #[.slice A n c, .int .i64 x] w fun e w' => e = .returned (.bool (hasK l x)) ∧ w = w' := by
  subst hx
  go_enter Try.func103, Try.ntmps103
  go_wp2
  go_loop [9] (fun i => ∃ j : Nat, j ≤ l.length ∧ i = .int .i64 j ∧ ∀ q (hq : q < l.length), q < j → l[q] ≠ x) (fun i => l.length - (intOf i).toNat)
  case atStart => exact ⟨0, Nat.zero_le _, rfl, fun q _ h => by omega⟩
  case round =>
    obtain ⟨j, hj, rfl, hs⟩ := hrel
    by_cases hlt : j < l.length
    · obtain ⟨b, o, rfl, hb, hc⟩ := hA.look (k := j) (by simpa [nums] using hlt)
      simp only [nums, List.getElem_map] at hc
      by_cases he : l[j] = x
      · have HQ : Hid (hasK l x = true) := by show l.contains x = _; rw [List.contains_iff_mem, ← he]; exact List.getElem_mem hlt
        have hbe : (l[j] == x) = true := by simp [he]
        clear he hs
        go_wp2
        go_ret
        exact ⟨ret_of (by rw [HQ.out]; rfl), rfl⟩
      · have hbe : (l[j] == x) = false := by simp [he]
        have HE := Lib.hid he
        have HS := Lib.hid hs
        clear he hs
        go_wp2
        go_round
        case rel => exact ⟨j + 1, by omega, by go_num, fun q hq h => by
          rcases Nat.lt_succ_iff_lt_or_eq.1 h with h | rfl
          · exact HS.out q hq h
          · exact HE.out⟩
        case measure => simp [intOf]; omega
    · have HQ : Hid (hasK l x = false) := by
        show l.contains x = _
        rw [Bool.eq_false_iff]
        intro h
        obtain ⟨q, hq, he⟩ := List.getElem_of_mem (List.contains_iff_mem.1 h)
        exact hs q hq (by omega) he
      clear hs
      go_wp2
      go_ret
      exact ⟨ret_of (by rw [HQ.out]; rfl), rfl⟩

def NoneI (bs : List Int) (t : Int) (k : Nat) : Prop := ∀ j (h : j < bs.length), j < k → bs[j] ≠ t
theorem NoneI.next {bs : List Int} {t : Int} {k : Nat} (h : NoneI bs t k) (hk : k < bs.length) (hne : bs[k] ≠ t) : NoneI bs t (k + 1) := fun j hj hlt => by
  rcases (show j < k ∨ j = k by omega) with h1 | h1
  · exact h j hj h1
  · subst h1
    exact hne
def IndexI (bs : List Int) (t : Int) (w : World) (e : Ending) (w' : World) : Prop := ∃ r : Int, e = .returned (.int .i64 r) ∧ decide (0 ≤ r) = bs.any (· == t) ∧ w = w'

end Go.Proofs.Ytoedcieofjcgkaa

namespace Go.Proofs.Ytoedcieofjcgkaa
open Go.RowKit Go.Maps Go.WideShapes

/-- Keys of type k: each a of the list dom stands as the value val a and reads as lit a. -/
structure KeyT (P : Program) (k : TypeId) {α : Type} (val : α → Value) (lit : α → Lit) (dom : List α) : Prop where
  law : Keyed P k
  reads : ∀ a ∈ dom, keyOf P k (val a) = some (lit a)
  inj : ∀ a ∈ dom, ∀ b ∈ dom, lit a = lit b → a = b

/-- What is read holds just what M says. -/
structure ReadsAs {H α : Type} (lit : α → Lit) (dom : List α) (D : DataW H) (M : α → Option Int) : Prop where
  keys : ∀ kl, Go.Maps.has D kl = true → ∃ a, a ∈ dom ∧ kl = lit a
  out : ∀ a, M a ≠ none → a ∈ dom
  there : ∀ a, a ∈ dom → Go.Maps.has D (lit a) = (M a).isSome
  at_ : ∀ a c, M a = some c → ∀ z, D.atKey (lit a) z = .lit (.int .i64 c)

theorem nodup_le {β : Type} : ∀ (l m : List β), l.Nodup → (∀ x ∈ l, x ∈ m) → l.length ≤ m.length := by
  intro l
  induction l with
  | nil => intro m _ _; simp
  | cons x l ih =>
    intro m hn hs
    obtain ⟨h1, h2⟩ := List.nodup_cons.1 hn
    obtain ⟨s, t, rfl⟩ := List.append_of_mem (hs x (by simp))
    have := ih (s ++ t) h2 fun y hy => by
      have hy2 := hs y (by simp [hy])
      have hne : y ≠ x := fun e => h1 (e ▸ hy)
      simp only [List.mem_append, List.mem_cons] at hy2 ⊢
      rcases hy2 with h | h | h
      · exact .inl h
      · exact absurd h hne
      · exact .inr h
    simp only [List.length_cons, List.length_append] at this ⊢
    omega

section
variable {H α : Type} {P : Program} {k e : TypeId} {val : α → Value} {lit : α → Lit} {dom : List α} {D : DataW H} {M : α → Option Int}

theorem ReadsAs.size_le {n b : Nat} {w : World} {R : Value → Option (DataW H × List MemPlace)} (h : ReadsAs lit dom D M) (K : Keyed P k) (ho : w.ownsMap P k R b n D) : Maps.size D ≤ dom.length := by
  obtain ⟨es, rfl, hp, hk⟩ := ho.entries K
  have h1 : (es.map (·.1)).length ≤ (dom.map lit).length := by
    refine nodup_le _ _ ?_ ?_
    · rw [List.Nodup, List.pairwise_map]
      exact hp
    · intro x hx
      obtain ⟨p, hp, rfl⟩ := List.mem_map.1 hx
      obtain ⟨a, ha, hl⟩ := h.keys p.1 (List.any_eq_true.2 ⟨p, hp, WideAt.sameKey_self (hk p hp)⟩)
      exact List.mem_map.2 ⟨a, ha, hl.symm⟩
  simpa [Maps.size] using h1

theorem owns_tight {n b : Nat} {w : World} {R : Value → Option (DataW H × List MemPlace)} (ho : w.ownsMap P k R b n D) : w.ownsMap P k R b (Maps.size D) D := by
  obtain ⟨es, clock, hb, F, hs, rfl⟩ := ho
  exact ⟨es, clock, hb, F, by simp [Maps.size, length_sorted], rfl⟩

/-- M with c at a. -/
noncomputable def upd (M : α → Option Int) (a : α) (c : Int) : α → Option Int := fun x => open Classical in if x = a then some c else M x
/-- M without a. -/
noncomputable def del (M : α → Option Int) (a : α) : α → Option Int := fun x => open Classical in if x = a then none else M x
theorem upd_same (M : α → Option Int) (a : α) (c : Int) : upd M a c a = some c := by simp [upd]
theorem upd_other (M : α → Option Int) {a x : α} (c : Int) (h : x ≠ a) : upd M a c x = M x := by simp [upd, h]
theorem del_same (M : α → Option Int) (a : α) : del M a a = none := by simp [del]
theorem del_other (M : α → Option Int) {a x : α} (h : x ≠ a) : del M a x = M x := by simp [del, h]

theorem ReadsAs.empty : ReadsAs lit dom (.map [] : DataW H) (fun _ => none) :=
  ⟨fun kl h => (by cases h), fun a h => absurd rfl h, fun a _ => rfl, fun a c h => (by cases h)⟩

theorem ReadsAs.put (h : ReadsAs lit dom D M) (K : KeyT P k val lit dom) (hD : IsMap D) {a : α} (ha : a ∈ dom) (c : Int) : ReadsAs lit dom (D.put (lit a) (.lit (.int .i64 c))) (upd M a c) := by
  have hk := K.law.key (K.reads a ha)
  refine ⟨fun kl hkl => ?_, fun x hx => ?_, fun x hx => ?_, fun x c' hx z => ?_⟩
  · by_cases e : kl = lit a
    · exact ⟨a, ha, e⟩
    · rw [has_put_other e] at hkl
      exact h.keys kl hkl
  · by_cases e : x = a
    · subst e; exact ha
    · rw [upd_other M c e] at hx
      exact h.out x hx
  · by_cases e : x = a
    · subst e
      rw [has_put_same hD hk, upd_same]
      rfl
    · rw [has_put_other (fun e2 => e (K.inj x hx a ha e2)), upd_other M c e, h.there x hx]
  · by_cases e : x = a
    · subst e
      rw [upd_same] at hx
      rw [atKey_put_same hD hk, Option.some.inj hx]
    · rw [upd_other M c e] at hx
      rw [atKey_put_other (fun e2 => e (K.inj x (h.out x (by rw [hx]; simp)) a ha e2)), h.at_ x c' hx z]

theorem ReadsAs.drop (h : ReadsAs lit dom D M) (K : KeyT P k val lit dom) {a : α} (ha : a ∈ dom) : ReadsAs lit dom (D.del (lit a)) (del M a) := by
  refine ⟨fun kl hkl => ?_, fun x hx => ?_, fun x hx => ?_, fun x c' hx z => ?_⟩
  · by_cases e : kl = lit a
    · exact ⟨a, ha, e⟩
    · rw [has_del_other e] at hkl
      exact h.keys kl hkl
  · by_cases e : x = a
    · subst e; exact ha
    · rw [del_other M e] at hx
      exact h.out x hx
  · by_cases e : x = a
    · subst e
      rw [has_del_same, del_same]
      rfl
    · rw [has_del_other (fun e2 => e (K.inj x hx a ha e2)), del_other M e, h.there x hx]
  · by_cases e : x = a
    · subst e
      rw [del_same] at hx
      cases hx
    · rw [del_other M e] at hx
      rw [atKey_del_other (fun e2 => e (K.inj x (h.out x (by rw [hx]; simp)) a ha e2)), h.at_ x c' hx z]
end

/-- Block b of the world is a map of numbers that holds just what M says. -/
def MapIs (P : Program) (k e : TypeId) {α : Type} (lit : α → Lit) (dom : List α) (w : World) (b : Nat) (M : α → Option Int) : Prop :=
  ∃ D : DataW Unit, w.ownsMap P k (plainElem P e) b dom.length D ∧ ReadsAs lit dom D M

/-- A loop over it: left tells which keys are still to come. -/
def RangeIs (P : Program) (k e : TypeId) {α : Type} (lit : α → Lit) (dom : List α) (w : World) (b r : Nat) (M : α → Option Int) (left : α → Bool) : Prop :=
  ∃ (D : DataW Unit) (left0 : Lit → Bool) (cnt : Nat), w.ranges P k (plainElem P e) b r dom.length D left0 cnt ∧ ReadsAs lit dom D M ∧ (∀ a, a ∈ dom → left0 (lit a) = left a) ∧ (∀ kl, left0 kl = true → Go.Maps.has D kl = true) ∧ (∀ a, left a = true → a ∈ dom)

section
variable {α : Type} {P : Program} {k e : TypeId} {val : α → Value} {lit : α → Lit} {dom : List α} {M : α → Option Int} {w : World} {b r : Nat} {left : α → Bool}

theorem MapIs.lt (h : MapIs P k e lit dom w b M) : b < w.heap.size := by obtain ⟨D, ho, -⟩ := h; exact ho.lt
theorem MapIs.kept {w' : World} {row : Option Nat} (h : MapIs P k e lit dom w b M) (hg : w.grownBy w' row) (hne : some b ≠ row) : MapIs P k e lit dom w' b M := by
  obtain ⟨D, ho, hr⟩ := h; exact ⟨D, ho.kept hg hne, hr⟩
theorem MapIs.alloc (h : MapIs P k e lit dom w b M) (o : Obj) : MapIs P k e lit dom (w.alloc o) b M := by
  obtain ⟨D, ho, hr⟩ := h; exact ⟨D, ho.alloc o, hr⟩
theorem MapIs.below {w' : World} (h : MapIs P k e lit dom w b M) (hb : Below w.heap.size w w') : MapIs P k e lit dom w' b M := by
  have hl := h.lt
  obtain ⟨D, ⟨es, clock, hh, r⟩, hr⟩ := h
  exact ⟨D, ⟨es, clock, (hb.block b hl).trans hh, r⟩, hr⟩
theorem MapIs.out (h : MapIs P k e lit dom w b M) {a : α} (ha : M a ≠ none) : a ∈ dom := by obtain ⟨D, -, hr⟩ := h; exact hr.out a ha
theorem MapIs.made (w : World) (P : Program) (k e : TypeId) (lit : α → Lit) (dom : List α) : MapIs P k e lit dom (w.alloc (.map #[] 0)) w.heap.size (fun _ => none) :=
  ⟨.map [], (World.ownsMap_made w P k _).mono (Nat.zero_le _), ReadsAs.empty⟩
theorem MapIs.same {M' : α → Option Int} (h : MapIs P k e lit dom w b M) (hM : M = M') : MapIs P k e lit dom w b M' := hM ▸ h

theorem RangeIs.lt (h : RangeIs P k e lit dom w b r M left) : r < w.heap.size := by obtain ⟨D, l, c, ho, -⟩ := h; exact ho.lt
theorem RangeIs.ne (h : RangeIs P k e lit dom w b r M left) : r ≠ b := by obtain ⟨D, l, c, ho, -⟩ := h; exact ho.ne
theorem RangeIs.map (h : RangeIs P k e lit dom w b r M left) : MapIs P k e lit dom w b M := by obtain ⟨D, l, c, ho, hr, -⟩ := h; exact ⟨D, ho.owns, hr⟩
theorem RangeIs.kept {w' : World} {row : Option Nat} (h : RangeIs P k e lit dom w b r M left) (hg : w.grownBy w' row) (h1 : some b ≠ row) (h2 : some r ≠ row) : RangeIs P k e lit dom w' b r M left := by
  obtain ⟨D, l, c, ho, hr⟩ := h; exact ⟨D, l, c, ho.kept hg h1 h2, hr⟩
theorem RangeIs.below {w' : World} (h : RangeIs P k e lit dom w b r M left) (hb : Below w.heap.size w w') : RangeIs P k e lit dom w' b r M left :=
  h.kept (row := none) ⟨hb.os, hb.tape, hb.output, hb.size, fun i hi _ => hb.block i hi⟩ (by simp) (by simp)
theorem RangeIs.left_kept {w' : World} {row : Option Nat} (h : RangeIs P k e lit dom w b r M left) (hg : w.grownBy w' row) (h1 : some b ≠ row) (h2 : some r ≠ row) : w'.rangeLeft b r = w.rangeLeft b r := by
  obtain ⟨D, l, c, ho, hr⟩ := h; rw [ho.left_eq, (ho.kept hg h1 h2).left_eq]
theorem RangeIs.left_below {w' : World} (h : RangeIs P k e lit dom w b r M left) (hb : Below w.heap.size w w') : w'.rangeLeft b r = w.rangeLeft b r :=
  h.left_kept (row := none) ⟨hb.os, hb.tape, hb.output, hb.size, fun i hi _ => hb.block i hi⟩ (by simp) (by simp)
end

section
variable {α : Type} {P : Program} {k e t : TypeId} {val : α → Value} {lit : α → Lit} {dom : List α} {M : α → Option Int} (w : World) {b r : Nat} {left : α → Bool}
  {ops : Array Oper} {rest : List Oper} {o : Oper} {a : Act} {Q : Exit → Act → World → Prop}

theorem opt_cases {x : Option Int} {c : Int} {D : DataW Unit} {kl : Lit} (h1 : x = none → Go.Maps.has D kl = false) (h2 : ∀ c, x = some c → ∀ z, D.atKey kl z = .lit (.int .i64 c)) (hat : D.atKey kl (.lit (.int .i64 0)) = .lit (.int .i64 c)) : x.getD 0 = c := by
  cases x with
  | none =>
    rw [atKey_of_not_has (h1 rfl)] at hat
    simp at hat
    exact hat
  | some c' =>
    rw [h2 c' rfl] at hat
    simp at hat
    exact hat

/-- 'm[k]'. -/
theorem wpList_map_look (hg : o.guard = none) (m x : Operand) (hop : o.op = Op.lookup t m x false) (K : KeyT P k val lit dom) (ht : P.underlying t = some (.map k e)) (he : P.underlying e = some (.int .i64)) (hz : (zeroValue e).run P w = .ok (.int .i64 0) w)
    (hm : a.eval m = .map (some b)) (hown : MapIs P k e lit dom w b M) (key : α) (hkd : key ∈ dom) (hx : a.eval x = val key)
    (hK : wpList P ops Q rest (a.put o.dst (.int .i64 ((M key).getD 0))) w) : wpList P ops Q (o :: rest) a w := by
  obtain ⟨D, ho, hr⟩ := hown
  refine wpList_lookup_own_int w hg m x t hop k e .i64 K.law ht he hz b dom.length D hm ho (val key) (lit key) hx (K.reads key hkd) fun c hat _ => ?_
  rw [opt_cases (fun h => by rw [hr.there key hkd, h]; rfl) (fun c h => hr.at_ key c h) hat] at hK
  exact hK

/-- 'v, ok := m[k]'. -/
theorem wpList_map_look_ok (hg : o.guard = none) (m x : Operand) (hop : o.op = Op.lookup t m x true) (K : KeyT P k val lit dom) (ht : P.underlying t = some (.map k e)) (he : P.underlying e = some (.int .i64)) (hz : (zeroValue e).run P w = .ok (.int .i64 0) w)
    (hm : a.eval m = .map (some b)) (hown : MapIs P k e lit dom w b M) (key : α) (hkd : key ∈ dom) (hx : a.eval x = val key)
    (hK : wpList P ops Q rest (a.put o.dst (.tuple #[.int .i64 ((M key).getD 0), .bool (M key).isSome])) w) : wpList P ops Q (o :: rest) a w := by
  obtain ⟨D, ho, hr⟩ := hown
  refine wpList_lookup_own_ok_int w hg m x t hop k e .i64 K.law ht he hz b dom.length D hm ho (val key) (lit key) hx (K.reads key hkd) fun c hat _ => ?_
  rw [opt_cases (fun h => by rw [hr.there key hkd, h]; rfl) (fun c h => hr.at_ key c h) hat, ← hr.there key hkd] at hK
  exact hK

/-- 'm[k] = v'. -/
theorem wpList_map_put (hg : o.guard = none) (m x v : Operand) (hop : o.op = Op.mapUpdate t m x v) (K : KeyT P k val lit dom) (ht : P.underlying t = some (.map k e)) (he : P.underlying e = some (.int .i64)) (hdom : dom.length < maxLen)
    (hm : a.eval m = .map (some b)) (hown : MapIs P k e lit dom w b M) (key : α) (hkd : key ∈ dom) (hx : a.eval x = val key) (c : Int) (hc : (Lit.int .i64 c).wf = true) (hv : a.eval v = .int .i64 c)
    (hK : ∀ w', MapIs P k e lit dom w' b (upd M key c) → w.grownBy w' (some b) → wpList P ops Q rest (a.put o.dst undef) w') : wpList P ops Q (o :: rest) a w := by
  obtain ⟨D, ho, hr⟩ := hown
  refine wpList_mapUpdate_own w hg m x v t hop k e K.law ht _ b dom.length D hm ho hdom (val key) (.int .i64 c) (lit key) hx hv (K.reads key hkd) (.lit (.int .i64 c)) [] (plainElem_int he hc) fun w' ho' hg' => hK w' ?_ hg'
  have hr' := hr.put K ho.isMap hkd c
  exact ⟨_, (owns_tight ho').mono (hr'.size_le K.law ho'), hr'⟩

/-- 'delete(m, k)'. -/
theorem wpList_map_delete (hg : o.guard = none) (m x : Operand) (hop : o.op = Op.call { callee := Callee.builtin Builtin.delete, args := #[m, x], argTypes := #[t, k] }) (K : KeyT P k val lit dom) (ht : P.underlying t = some (.map k e))
    (hm : a.eval m = .map (some b)) (hown : MapIs P k e lit dom w b M) (key : α) (hkd : key ∈ dom) (hx : a.eval x = val key)
    (hK : ∀ w', MapIs P k e lit dom w' b (del M key) → w.grownBy w' (some b) → wpList P ops Q rest (a.put o.dst (.tuple #[])) w') : wpList P ops Q (o :: rest) a w := by
  obtain ⟨D, ho, hr⟩ := hown
  exact wpList_delete_own w hg m x t k hop e K.law ht _ b dom.length D hm ho (val key) (lit key) hx (K.reads key hkd) fun w' ho' ht' => hK w' ⟨_, ho', hr.drop K hkd⟩ ht'.grown

/-- How many keys are there. -/
noncomputable def countIs (dom : List α) (M : α → Option Int) : Nat := (dom.filter fun a => (M a).isSome).length

theorem MapIs.count {b : Nat} {w : World} (K : KeyT P k val lit dom) (hd : dom.Nodup) {D : DataW Unit} (ho : w.ownsMap P k (plainElem P e) b dom.length D) (hr : ReadsAs lit dom D M) : Maps.size D = countIs dom M := by
  obtain ⟨es, rfl, hp, hk⟩ := ho.entries K.law
  have hkeys : ∀ x, x ∈ es.map (·.1) ↔ x ∈ (dom.filter fun a => (M a).isSome).map lit := by
    intro x
    constructor
    · intro hx
      obtain ⟨p, hp, rfl⟩ := List.mem_map.1 hx
      have hh : Go.Maps.has (.map es) p.1 = true := List.any_eq_true.2 ⟨p, hp, WideAt.sameKey_self (hk p hp)⟩
      obtain ⟨a, ha, hl⟩ := hr.keys p.1 hh
      refine List.mem_map.2 ⟨a, List.mem_filter.2 ⟨ha, ?_⟩, hl.symm⟩
      show (M a).isSome = true
      rw [← hr.there a ha, ← hl]
      exact hh
    · intro hx
      obtain ⟨a, ha, rfl⟩ := List.mem_map.1 hx
      obtain ⟨ha, hs⟩ := List.mem_filter.1 ha
      rw [← hr.there a ha] at hs
      obtain ⟨p, hp, hpk⟩ := List.any_eq_true.1 hs
      exact List.mem_map.2 ⟨p, hp, WideAt.sameKey_eq hpk⟩
  have n1 : (es.map (·.1)).Nodup := by
    rw [List.Nodup, List.pairwise_map]
    exact hp
  have n2 : ((dom.filter fun a => (M a).isSome).map lit).Nodup := by
    rw [List.Nodup, List.pairwise_map]
    refine List.Pairwise.imp_of_mem ?_ (hd.filter _)
    intro a b ha hb hne e
    exact hne (K.inj a (List.mem_filter.1 ha).1 b (List.mem_filter.1 hb).1 e)
  have h1 := nodup_le _ _ n1 fun x hx => (hkeys x).1 hx
  have h2 := nodup_le _ _ n2 fun x hx => (hkeys x).2 hx
  simp only [List.length_map] at h1 h2
  show es.length = _
  unfold countIs
  omega

/-- 'len(m)'. -/
theorem wpList_map_len (hg : o.guard = none) (m : Operand) (hop : o.op = Op.call { callee := Callee.builtin Builtin.len, args := #[m], argTypes := #[t] }) (K : KeyT P k val lit dom) (hd : dom.Nodup) (ht : P.underlying t = some (.map k e))
    (hm : a.eval m = .map (some b)) (hown : MapIs P k e lit dom w b M)
    (hK : wpList P ops Q rest (a.put o.dst (.int .i64 (countIs dom M : Nat))) w) : wpList P ops Q (o :: rest) a w := by
  obtain ⟨D, ho, hr⟩ := hown
  refine wpList_len_own w hg m t hop k e ht _ b dom.length D hm ho ?_
  rw [MapIs.count K hd ho hr]
  exact hK

/-- 'range m'. -/
theorem wpList_map_range (hg : o.guard = none) (m : Operand) (hop : o.op = Op.range t m) (K : KeyT P k val lit dom) (ht : P.underlying t = some (.map k e)) (hm : a.eval m = .map (some b)) (hown : MapIs P k e lit dom w b M)
    (hK : ∀ w', RangeIs P k e lit dom w' b w.heap.size M (fun x => (M x).isSome) → w.grownBy w' none → w'.heap.size = w.heap.size + 1 → wpList P ops Q rest (a.put o.dst (.pointer (some ⟨w.heap.size, 0, none⟩))) w') : wpList P ops Q (o :: rest) a w := by
  obtain ⟨D, ho, hr⟩ := hown
  refine wpList_range_own w hg m t hop k e K.law ht _ b dom.length D hm ho fun w' hrg hg' hs => hK w' ⟨D, _, _, hrg, hr, fun a ha => hr.there a ha, fun kl h => h, fun a ha => hr.out a (fun h => by simp [h] at ha)⟩ hg' hs

/-- The step of such a loop. -/
theorem wpList_map_next (hg : o.guard = none) (it : Operand) (hop : o.op = Op.next it false) (K : KeyT P k val lit dom) (he : P.underlying e = some (.int .i64)) (hit : a.eval it = .pointer (some ⟨r, 0, none⟩)) (h : RangeIs P k e lit dom w b r M left)
    (hDone : (∀ x, left x = false) → wpList P ops Q rest (a.put o.dst (.tuple #[.bool false])) w)
    (hMore : ∀ (x : α) (c : Int) (w' : World), x ∈ dom → left x = true → M x = some c → (Lit.int .i64 c).wf = true → RangeIs P k e lit dom w' b r M (fun z => open Classical in if z = x then false else left z) → w'.rangeLeft b r < w.rangeLeft b r → w.grownBy w' (some r) → w'.heap.size = w.heap.size →
      (Instr.entry (.pointer (some ⟨r, 0, none⟩))).run P w' = .ok (.tuple #[val x, .int .i64 c]) w' → wpList P ops Q rest (a.put o.dst (.tuple #[.bool true, val x, .int .i64 c])) w') :
    wpList P ops Q (o :: rest) a w := by
  obtain ⟨D, left0, cnt, hrg, hr, hl, hh, hld⟩ := h
  refine wpList_plain hg fun K' hK' => ?_
  unfold Oper.wp
  rcases hrg.next K.law o.type with ⟨h0, hl0, hrun⟩ | ⟨key, v, kl, y, w', cnt', hkey, hlk, hv, hat, hrun, hrg', hlt, hgr, hsz, hen⟩
  · simp [execOp, hop, hit, hrun, Result.andThen]
    refine hK' _ _ (hDone fun x => ?_)
    cases hx : left x
    · rfl
    · rw [← hl x (hld x hx), hl0] at hx
      cases hx
  · obtain ⟨x, hxd, rfl⟩ := hr.keys kl (hh kl hlk)
    obtain rfl : key = val x := K.law.inj hkey (K.reads x hxd)
    obtain ⟨c, rfl, rfl, hwc⟩ := plainElem_int_inv he hv
    have hMx : M x = some c := by
      cases hM : M x with
      | none =>
        have := hr.there x hxd
        rw [hM, hh _ hlk] at this
        cases this
      | some c' =>
        have h1 := hr.at_ x c' hM (.lit (.int .i64 0))
        rw [hat] at h1
        simp at h1
        rw [h1]
    simp [execOp, hop, hit, hrun, Result.andThen]
    refine hK' _ _ (hMore x c w' hxd ((hl x hxd).symm.trans hlk) hMx hwc ⟨D, _, cnt', hrg', hr, fun z hz => ?_, fun kl' h' => hh kl' ?_, fun z hz => ?_⟩ ?_ hgr hsz hen)
    · by_cases ez : z = x
      · subst ez
        simp [WideAt.sameKey_self (K.law.key (K.reads z hz))]
      · simp [ez, hl z hz, sameKey_ne (fun e2 => ez (K.inj z hz x hxd e2))]
    · simp at h'
      exact h'.1
    · by_cases ez : z = x
      · subst ez; exact hxd
      · simp [ez] at hz
        exact hld z hz
    · rw [hrg'.left_eq, hrg.left_eq]
      exact hlt
end
end Go.Proofs.Ytoedcieofjcgkaa

namespace Go.Proofs.Ytoedcieofjcgkaa
open Go.RowKit Go.Maps Go.WideShapes

section
variable {α : Type} {P : Program} {k e t : TypeId} {val : α → Value} {lit : α → Lit} {dom : List α} {M : α → Option Int} (w : World) {b : Nat}

theorem MapIs.look {w : World} (h : MapIs P k e lit dom w b M) (K : KeyT P k val lit dom) (ht : P.underlying t = some (.map k e)) (he : P.underlying e = some (.int .i64)) (hz : (zeroValue e).run P w = .ok (.int .i64 0) w) (key : α) (hkd : key ∈ dom) :
    (Instr.lookup t (.map (some b)) (val key) false).run P w = .ok (.int .i64 ((M key).getD 0)) w := by
  obtain ⟨D, ho, hr⟩ := h
  obtain ⟨c, hrun, hat, -⟩ := ho.lookup_int K.law ht he hz (K.reads key hkd)
  rw [hrun, opt_cases (fun h => by rw [hr.there key hkd, h]; rfl) (fun c h => hr.at_ key c h) hat]
theorem MapIs.look_ok {w : World} (h : MapIs P k e lit dom w b M) (K : KeyT P k val lit dom) (ht : P.underlying t = some (.map k e)) (he : P.underlying e = some (.int .i64)) (hz : (zeroValue e).run P w = .ok (.int .i64 0) w) (key : α) (hkd : key ∈ dom) :
    (Instr.lookup t (.map (some b)) (val key) true).run P w = .ok (.tuple #[.int .i64 ((M key).getD 0), .bool (M key).isSome]) w := by
  obtain ⟨D, ho, hr⟩ := h
  obtain ⟨v, ps, hrun, hv⟩ := ho.look_ok K.law ht hz (plainElem_int he (by decide)) (K.reads key hkd)
  obtain ⟨c, rfl, hc, -⟩ := plainElem_int_inv he hv
  simp only [Prod.mk.injEq] at hc
  rw [hrun, opt_cases (fun h => by rw [hr.there key hkd, h]; rfl) (fun c h => hr.at_ key c h) hc.1, ← hr.there key hkd]
theorem MapIs.update {w : World} (h : MapIs P k e lit dom w b M) (K : KeyT P k val lit dom) (ht : P.underlying t = some (.map k e)) (he : P.underlying e = some (.int .i64)) (hdom : dom.length < maxLen) (key : α) (hkd : key ∈ dom) (c : Int) (hc : (Lit.int .i64 c).wf = true) :
    ∃ w', (Instr.mapUpdate t (.map (some b)) (val key) (.int .i64 c)).run P w = .ok () w' ∧ MapIs P k e lit dom w' b (upd M key c) ∧ w.grownBy w' (some b) := by
  obtain ⟨D, ho, hr⟩ := h
  obtain ⟨w', hrun, r1, r2⟩ := ho.update K.law ht hdom (K.reads key hkd) (plainElem_int he hc)
  have hr' := hr.put K ho.isMap hkd c
  exact ⟨w', hrun, ⟨_, (owns_tight r1).mono (hr'.size_le K.law r1), hr'⟩, r2⟩
/-- 'm[k] = v', as one operation. -/
theorem wp_map_put {o : Oper} {a : Act} {K' : Act → World → Prop} {Q : Exit → Act → World → Prop} (m x v : Operand) (hop : o.op = Op.mapUpdate t m x v) (K : KeyT P k val lit dom) (ht : P.underlying t = some (.map k e)) (he : P.underlying e = some (.int .i64)) (hdom : dom.length < maxLen)
    (hm : a.eval m = .map (some b)) (hown : MapIs P k e lit dom w b M) (key : α) (hkd : key ∈ dom) (hx : a.eval x = val key) (c : Int) (hc : (Lit.int .i64 c).wf = true) (hv : a.eval v = .int .i64 c)
    (hK : ∀ w', MapIs P k e lit dom w' b (upd M key c) → w.grownBy w' (some b) → K' (a.put o.dst undef) w') : o.wp P a w K' Q := by
  obtain ⟨w', hrun, r1, r2⟩ := hown.update K ht he hdom key hkd c hc
  unfold Oper.wp
  simp [execOp, hop, hm, hx, hv, hrun, Result.andThen]
  exact hK w' r1 r2
/-- 'v, ok := m[k]' where it is not there, and where it is. -/
theorem wpList_map_none {ops : Array Oper} {rest : List Oper} {o : Oper} {a : Act} {Q : Exit → Act → World → Prop} (hg : o.guard = none) (m x : Operand) (hop : o.op = Op.lookup t m x true) (K : KeyT P k val lit dom) (ht : P.underlying t = some (.map k e)) (he : P.underlying e = some (.int .i64)) (hz : (zeroValue e).run P w = .ok (.int .i64 0) w)
    (hm : a.eval m = .map (some b)) (hown : MapIs P k e lit dom w b M) (key : α) (hkd : key ∈ dom) (hx : a.eval x = val key) (hM : M key = none)
    (hK : wpList P ops Q rest (a.put o.dst (.tuple #[.int .i64 0, .bool false])) w) : wpList P ops Q (o :: rest) a w :=
  wpList_map_look_ok w hg m x hop K ht he hz hm hown key hkd hx (by rw [hM]; exact hK)
theorem wpList_map_some {ops : Array Oper} {rest : List Oper} {o : Oper} {a : Act} {Q : Exit → Act → World → Prop} (hg : o.guard = none) (m x : Operand) (hop : o.op = Op.lookup t m x true) (K : KeyT P k val lit dom) (ht : P.underlying t = some (.map k e)) (he : P.underlying e = some (.int .i64)) (hz : (zeroValue e).run P w = .ok (.int .i64 0) w)
    (hm : a.eval m = .map (some b)) (hown : MapIs P k e lit dom w b M) (key : α) (hkd : key ∈ dom) (hx : a.eval x = val key) {c : Int} (hM : M key = some c)
    (hK : wpList P ops Q rest (a.put o.dst (.tuple #[.int .i64 c, .bool true])) w) : wpList P ops Q (o :: rest) a w :=
  wpList_map_look_ok w hg m x hop K ht he hz hm hown key hkd hx (by rw [hM]; exact hK)
/-- An entry of a map's literal. -/
theorem wpList_map_entry {ops : Array Oper} {rest : List Oper} {o : Oper} {a : Act} {Q : Exit → Act → World → Prop} (hg : o.guard = none) (m x v : Operand) (hop : o.op = Op.insert t m x v) (K : KeyT P k val lit dom) (ht : P.underlying t = some (.map k e)) (he : P.underlying e = some (.int .i64)) (hdom : dom.length < maxLen)
    (hm : a.eval m = .map (some b)) (hown : MapIs P k e lit dom w b M) (key : α) (hkd : key ∈ dom) (hx : a.eval x = val key) (c : Int) (hc : (Lit.int .i64 c).wf = true) (hv : a.eval v = .int .i64 c)
    (hK : ∀ w', MapIs P k e lit dom w' b (upd M key c) → w.grownBy w' (some b) → wpList P ops Q rest (a.put o.dst undef) w') : wpList P ops Q (o :: rest) a w := by
  refine wpList_plain hg fun K2 hK2 => ?_
  obtain ⟨w', hrun, r1, r2⟩ := hown.update K ht he hdom key hkd c hc
  unfold Oper.wp
  simp [execOp, hop, hm, hx, hv, hrun, Result.andThen]
  exact hK2 _ _ (hK w' r1 r2)
end

/-- The number that a list of entries holds at a key: the newest one. -/
def lk (m : List (Nat × Int)) (y : Nat) : Option Int := m.lookup y
theorem lk_put (m : List (Nat × Int)) (y : Nat) (v : Int) : upd (lk m) y v = lk ((y, v) :: m) := by
  funext z
  by_cases h : z = y
  · subst h; rw [upd_same]; simp [lk]
  · rw [upd_other _ _ h]
    have hb : (z == y) = false := by simp [h]
    simp [lk, List.lookup, hb]
theorem lk_mem {m : List (Nat × Int)} {y : Nat} {v : Int} (h : lk m y = some v) : (y, v) ∈ m := by
  induction m with
  | nil => simp [lk] at h
  | cons p m ih =>
    obtain ⟨a, b⟩ := p
    by_cases e : y = a
    · subst e
      have : b = v := by simpa [lk] using h
      simp [this]
    · have hb : (y == a) = false := by simp [e]
      have h' : lk m y = some v := by simpa [lk, List.lookup, hb] using h
      exact List.mem_cons_of_mem _ (ih h')
end Go.Proofs.Ytoedcieofjcgkaa

namespace Go.Proofs.Ytoedcieofjcgkaa

/-- A list of truth values behind a number, as digits. -/
def num (bs : List Bool) (a : Nat) : Nat := bs.foldl (fun n b => 2 * n + b.toNat) a
theorem num_snoc (bs : List Bool) (b : Bool) (a : Nat) : num (bs ++ [b]) a = 2 * num bs a + b.toNat := by simp [num, List.foldl_append]
theorem num_cons (bs : List Bool) (b : Bool) (a : Nat) : num (b :: bs) a = num bs (2 * a + b.toNat) := rfl
theorem num_parts (bs : List Bool) : ∀ a, ∃ r, num bs a = a * 2 ^ bs.length + r ∧ r < 2 ^ bs.length := by
  induction bs with
  | nil => exact fun a => ⟨0, by simp [num], by simp⟩
  | cons b bs ih =>
    intro a
    obtain ⟨r, h1, h2⟩ := ih (2 * a + b.toNat)
    refine ⟨b.toNat * 2 ^ bs.length + r, ?_, ?_⟩
    · rw [num_cons, h1, List.length_cons, Nat.pow_succ, Nat.add_mul, Nat.mul_comm (2 ^ bs.length) 2, ← Nat.mul_assoc, Nat.mul_comm a 2, Nat.add_assoc]
    · rw [List.length_cons, Nat.pow_succ]
      cases b
      · simp; omega
      · simp; omega
theorem num_head (bs : List Bool) (a : Nat) : num bs a / 2 ^ bs.length = a := by
  obtain ⟨r, h1, h2⟩ := num_parts bs a
  rw [h1, Nat.mul_comm, Nat.mul_add_div (Nat.two_pow_pos _), Nat.div_eq_of_lt h2, Nat.add_zero]
theorem num_lt (bs : List Bool) (b : Bool) : num bs b.toNat < 2 ^ (bs.length + 1) := by
  obtain ⟨r, h1, h2⟩ := num_parts bs b.toNat
  rw [h1, Nat.pow_succ]
  cases b
  · simp; omega
  · simp; omega
/-- The digit of a person. -/
theorem num_digit (bs : List Bool) : ∀ (a k : Nat) (h : k < bs.length), num bs a / 2 ^ (bs.length - 1 - k) % 2 = bs[k].toNat := by
  induction bs with
  | nil => intro a k h; simp at h
  | cons b bs ih =>
    intro a k h
    rw [num_cons]
    cases k with
    | zero =>
      have : (b :: bs).length - 1 - 0 = bs.length := by simp
      rw [this, num_head]
      cases b <;> simp <;> omega
    | succ k =>
      have hk : k < bs.length := by simpa using h
      have : (b :: bs).length - 1 - (k + 1) = bs.length - 1 - k := by simp; omega
      rw [this, ih _ k hk]
      simp
/-- The digits of a number, n of them. -/
def digits (n i : Nat) : List Bool := (List.range n).map fun k => decide (i / 2 ^ (n - 1 - k) % 2 = 1)
theorem digits_len (n i : Nat) : (digits n i).length = n := by simp [digits]
theorem digits_num (bs : List Bool) (a : Nat) : digits bs.length (num bs a) = bs := by
  refine List.ext_getElem (digits_len _ _) fun k h1 h2 => ?_
  simp only [digits, List.getElem_map, List.getElem_range]
  rw [num_digit bs a k h2]
  cases bs[k] <;> rfl
theorem digits_succ (n i : Nat) : digits (n + 1) i = digits n (i / 2) ++ [decide (i % 2 = 1)] := by
  rw [digits, List.range_succ, List.map_append, digits]
  congr 1
  · refine List.map_congr_left fun k hk => ?_
    have hk := List.mem_range.1 hk
    rw [Nat.div_div_eq_div_mul, show n + 1 - 1 - k = n - 1 - k + 1 by omega, Nat.pow_succ, Nat.mul_comm (2 ^ (n - 1 - k)) 2]
  · simp
theorem num_digits : ∀ (n i : Nat), num (digits n i) (i / 2 ^ n) = i := by
  intro n
  induction n with
  | zero => intro i; simp [digits, num]
  | succ n ih =>
    intro i
    rw [digits_succ, num_snoc, show i / 2 ^ (n + 1) = i / 2 / 2 ^ n by rw [Nat.pow_succ, Nat.mul_comm, Nat.div_div_eq_div_mul], ih (i / 2)]
    rcases Nat.mod_two_eq_zero_or_one i with h | h <;> simp [h] <;> omega
end Go.Proofs.Ytoedcieofjcgkaa

namespace Go.Proofs.Ytoedcieofjcgkaa
open Go.RowKit

/-- What a ride makes of a state. -/
noncomputable def rideOk (xs : List Int) (bs : List Bool) (m : Nat) (s : Int) (sb : List Bool) (t : Bool) (l : List Int) : Bool := crewState xs m s sb t && canRide xs bs s sb t l
noncomputable def rideBits (xs : List Int) (bs : List Bool) (m : Nat) (s : Int) (sb : List Bool) (t : Bool) (l : List Int) : List Bool := if rideOk xs bs m s sb t l then flipped sb l else []
noncomputable def rideTorch (xs : List Int) (bs : List Bool) (m : Nat) (s : Int) (sb : List Bool) (t : Bool) (l : List Int) : Bool := rideOk xs bs m s sb t l && !t
theorem rideW_no {xs : List Int} {bs : List Bool} {m : Nat} {s : Int} {sb : List Bool} {t : Bool} {l : List Int} (h : rideOk xs bs m s sb t l = false) : rideOk xs bs m s sb t l = false ∧ rideBits xs bs m s sb t l = [] ∧ rideTorch xs bs m s sb t l = false := ⟨h, by simp [rideBits, h], by simp [rideTorch, h]⟩
theorem rideW_yes {xs : List Int} {bs : List Bool} {m : Nat} {s : Int} {sb : List Bool} {t : Bool} {l : List Int} (h : rideOk xs bs m s sb t l = true) : rideOk xs bs m s sb t l = true ∧ rideBits xs bs m s sb t l = flipped sb l ∧ rideTorch xs bs m s sb t l = !t := ⟨h, by simp [rideBits, h], by simp [rideTorch, h]⟩
theorem rideBits_le {xs : List Int} {bs : List Bool} {m : Nat} {s : Int} {sb : List Bool} {t : Bool} {l : List Int} : (rideBits xs bs m s sb t l).length ≤ sb.length := by
  unfold rideBits; split
  · rw [flipped_len]; exact Nat.le_refl _
  · simp
theorem crewState_ok {xs : List Int} {m : Nat} {s : Int} {sb : List Bool} {t : Bool} (h : crewState xs m s sb t = true) : CrewOk xs m s ∧ sb.length = xs.length := by
  simp only [crewState, isState, Bool.and_eq_true, decide_eq_true_eq] at h
  exact ⟨isCrew_ok h.1, h.2.1⟩

theorem behindCrew_is (T : List Int → Int) (p gL g : Nat) (A D : Option Addr) (c n d : Nat) (ls : List (List Int)) (bs : List Bool) (t : Bool) (l : List Int) (w : World) (P : Array Value) (ok : Bool) (hp8 : p ≤ 8) (hbs : bs.length = p) (hls : ls.length ≤ 255) (hup : ∀ l ∈ ls, l ∈ upLists p p) (hF : RidesFn w T gL g A c ls) (hD : Holds w D (nums l)) (hl : l.length = n) (hn : n ≤ 9223372036854775807)
    (h : (l ∈ ridesAt bs t ls ∧ P = placeCells (flipped bs l) (!t) ∧ ok = true) ∨ (l ∉ ridesAt bs t ls ∧ P = placeCells bs t ∧ ok = false)) :
    Calls Try.prog 78 #[.agg (crewCells p gL), .agg (placeCells bs t), .slice D n d] w fun e w' => e = .returned (.tuple #[.agg P, .bool ok]) ∧ Below w.heap.size w w' :=
  (behindCrew_any T p gL g A D c n d ls bs t l w hp8 hbs hls hup hF hD hl hn).mono fun e w' ⟨h1, h2⟩ => by
    refine ⟨?_, h2⟩
    rcases h with ⟨ha, rfl, rfl⟩ | ⟨ha, rfl, rfl⟩ <;> rcases h1 with ⟨hb, rfl⟩ | ⟨hb, rfl⟩
    · rfl
    · exact absurd ha hb
    · exact absurd hb ha
    · rfl
/-- What stands behind the search for the ride. -/
def RideCut (w : World) (A B : Option Addr) (n0 m d : Nat) (s : Int) (P : Array Value) (ok : Bool) (v u : Value) (wx : World) : Prop :=
  ∃ g : Nat, v = .bool ok ∧ u = .pointer (some ⟨g, 0, none⟩) ∧ Whole wx g 79 P ∧ Whole wx w.heap.size 39 #[.slice A n0 n0, .slice B m d, .int .i64 s] ∧ Whole wx (w.heap.size + 1 + 1) 48 #[.slice none 0 0, .bool false] ∧ w.heap.size + 1 + 1 < g ∧ Below w.heap.size w wx

set_option maxHeartbeats 12800000 in
set_option maxRecDepth 100000 in
set_option linter.unusedSimpArgs false in
set_option linter.unusedVariables false in
theorem implRideWithCrew_any (A : Option Addr) (n0 : Nat) (B : Option Addr) (m d : Nat) (xs : List Int) (bs : List Bool) (s : Int) (D : Option Addr) (q z : Nat) (sb : List Bool) (t : Bool) (E : Option Addr) (r y : Nat) (l : List Int) (w : World) (hA : Holds w A (nums xs)) (hB : Holds w B (bits bs)) (hD : Holds w D (bits sb)) (hE : Holds w E (nums l)) (hx : xs.length = n0) (hy : bs.length = m) (hqq : sb.length = q) (hl : l.length = r) (hn : n0 ≤ 9223372036854775807) (hq : q ≤ 9223372036854775807) (hrr : r ≤ 9223372036854775807) :
    Calls Try.prog 37 #[.agg #[.slice A n0 n0, .slice B m d, .int .i64 s], .agg #[.slice D q z, .bool t], .slice E r y] w (StatePost (rideBits xs bs m s sb t l) (rideTorch xs bs m s sb t l) (rideOk xs bs m s sb t l) w) := by
  have HX := Lib.hid hx
  have HY := Lib.hid hy
  have HQ := Lib.hid hqq
  have HL := Lib.hid hl
  have hc := ((Whole.fresh w 39 #[.slice A n0 n0, .slice B m d, .int .i64 s]).alloc (.cells #[.slice D q z, .bool t] 48)).alloc (.cells #[.slice none 0 0, .bool false] 48)
  have hr := Whole.fresh ((w.alloc (.cells #[.slice A n0 n0, .slice B m d, .int .i64 s] 39)).alloc (.cells #[.slice D q z, .bool t] 48)) 48 #[.slice none 0 0, .bool false]
  have ht := below3 w (.cells #[.slice A n0 n0, .slice B m d, .int .i64 s] 39) (.cells #[.slice D q z, .bool t] 48) (.cells #[.slice none 0 0, .bool false] 48)
  rw [World.size_alloc, World.size_alloc] at hr
  have hcp := crewPlace_any A n0 n0 B m d xs s D q z sb t _ (hA.below ht) (hD.below ht) HX.out HQ.out hn hq
  go_enter Try.func37, Try.ntmps37
  go_wp2_with fail
  refine hcp.mono ?_
  clear hcp
  rintro e w1 ⟨⟨hp1, rfl⟩ | ⟨hp1, rfl⟩, hb⟩
  all_goals
    replace ht := below_then ht hb (by simp; omega)
    replace hc := hc.below hb
    replace hr := hr.below hb
    have hlr := hr.lt
    clear hb
  rotate_left
  · have HF := Lib.hid (rideW_no (show rideOk xs bs m s sb t l = false by simp [rideOk, hp1]))
    clear hp1
    unfold placeCells
    replace ht := ht.alloc ht.size (.cells #[.bool false, .bool false, .bool false, .bool false, .bool false, .bool false, .bool false, .bool false, .bool false] 79)
    replace hc := hc.alloc (.cells #[.bool false, .bool false, .bool false, .bool false, .bool false, .bool false, .bool false, .bool false, .bool false] 79)
    replace hr := hr.alloc (.cells #[.bool false, .bool false, .bool false, .bool false, .bool false, .bool false, .bool false, .bool false, .bool false] 79)
    go_upto_region 2 with fail
    generalize w1.alloc (.cells #[.bool false, .bool false, .bool false, .bool false, .bool false, .bool false, .bool false, .bool false, .bool false] 79) = W1 at hc hr ht ⊢
    obtain ⟨r0, r1, g0, g1⟩ := hr.two
    have hrl := hr.lt
    clear hc hr
    go_wp2
    refine bodyPost_ret (v := .tuple #[.agg #[.slice none 0 0, .bool false], .bool false]) (by simp [results, Try.results37, go_sem, r0, r1]) rfl (by rw [HF.out.1, HF.out.2.1, HF.out.2.2]; exact ⟨none, 0, rfl, .inl rfl, below_set (below_set ht (by omega)) (by omega)⟩)
  obtain ⟨hok, hsl⟩ := crewState_ok hp1
  have hn7 : n0 ≤ 7 := by have := hok.seven; omega
  have hn1 : 1 ≤ n0 := by have := hok.one; omega
  have hm8 : m ≤ 8 := by have := hok.rows; omega
  have HW := Lib.hid hok.weights
  have HSM := Lib.hid (crew_small (xs := xs) bs s (by omega))
  have HUP : Hid (∀ l ∈ crewLists xs bs s, l ∈ upLists n0 n0) := fun l hl => by have := crew_up hl; rw [hx] at this; exact this
  have HBS : Hid (sb.length = n0) := by show _ = _; omega
  obtain ⟨f, hf⟩ : ∃ f : Nat → Bool, f = fun i => sb.getD i false := ⟨_, rfl⟩
  have HPL : Hid (placeCells sb t = place9 f t) := by show _ = _; rw [place_nine9, hf]
  have hp := Whole.fresh w1 79 (place9 f t)
  replace ht := ht.alloc ht.size (.cells (place9 f t) 79)
  replace hc := hc.alloc (.cells (place9 f t) 79)
  replace hr := hr.alloc (.cells (place9 f t) 79)
  rw [HPL.out]
  clear hf
  obtain ⟨P, ok, hPok⟩ : ∃ (P : Array Value) (ok : Bool), ((l ∈ ridesAt sb t (crewLists xs bs s) ∧ P = placeCells (flipped sb l) (!t) ∧ ok = true) ∨ (l ∉ ridesAt sb t (crewLists xs bs s) ∧ P = placeCells sb t ∧ ok = false)) := by
    by_cases hm : l ∈ ridesAt sb t (crewLists xs bs s)
    · exact ⟨_, _, .inl ⟨hm, rfl, rfl⟩⟩
    · exact ⟨_, _, .inr ⟨hm, rfl, rfl⟩⟩
  have HIS := Lib.hid hPok
  have HSZ : Hid (P.size = 9) := by show _ = _; rcases hPok with ⟨-, rfl, -⟩ | ⟨-, rfl, -⟩ <;> rfl
  have HONE : Hid (P.all (·.oneCell') = true) := by show _ = _; rcases hPok with ⟨-, rfl, -⟩ | ⟨-, rfl, -⟩ <;> exact place_one _ _
  have HOK : Hid (rideOk xs bs m s sb t l = ok) := by
    show _ = _
    rw [rideOk, hp1]
    rcases hPok with ⟨hm, -, rfl⟩ | ⟨hm, -, rfl⟩
    · rw [ride_in.2 hm]; rfl
    · cases hcr : canRide xs bs s sb t l
      · rfl
      · exact absurd (ride_in.1 hcr) hm
  obtain ⟨gP, hgP⟩ : ∃ g : Nat, g = w1.heap.size := ⟨_, rfl⟩
  rw [← hgP] at hp
  have hgl : w.heap.size + 1 + 1 < gP := by omega
  clear hp1 hok hsl hPok hx hy hqq hl
  unfold place9 at hc hr hp ht
  unfold place9
  go_upto_region 4 with fail
  rw [← hgP]
  clear hgP
  generalize w1.alloc (.cells #[.bool (f 0), .bool (f 1), .bool (f 2), .bool (f 3), .bool (f 4), .bool (f 5), .bool (f 6), .bool (f 7), .bool t] 79) = W1 at hc hr hp ht ⊢
  have hpl := hp.lt
  go_cut [9, 10] (fun s9 s10 wx => RideCut w A B n0 m d s P ok s9 s10 wx)
  case first =>
    refine wp_region_held_drew (S := (fun w' => Box3 w.heap.size (.slice A n0 n0) (.slice B m d) (.int .i64 s) w' ∧ Row8 gP f w' ∧ w'.cell? ⟨gP, 8, none⟩ = some (.bool t))) (by kernel_rfl) ⟨box3_of hc.drew, row8_of hp.drew, hp.drew.cell 8⟩ (fun hHeld => ?_)
    replace ht := ht.drew
    replace hc := hc.drew
    replace hp := hp.drew
    replace hr := hr.drew
    refine wpAnyH_take (i := 0) (v := ?_) rfl (by kernel_rfl) (by kernel_rfl) (by kernel_rfl) (fun _ _ _ h => h) (Or.inl ⟨rfl, ?_⟩) hHeld ?_
    rotate_left
    · intro w' hS; obtain ⟨⟨s0, s1, s2⟩, ⟨a0, a1, a2, a3, a4, a5, a6, a7⟩, a8⟩ := hS; go_simp <;> with_reducible rfl
    simp only [Act.put, List.getElem_toArray, List.getElem_cons_succ, List.getElem_cons_zero, List.setIfInBounds_toArray, List.set_cons_succ, List.set_cons_zero]
    refine wpAnyH_take (i := 2) (v := ?_) rfl (by kernel_rfl) (by kernel_rfl) (by kernel_rfl) (fun _ _ _ h => h) (Or.inl ⟨rfl, ?_⟩) hHeld ?_
    rotate_left
    · intro w' hS; obtain ⟨⟨s0, s1, s2⟩, ⟨a0, a1, a2, a3, a4, a5, a6, a7⟩, a8⟩ := hS; go_simp <;> with_reducible rfl
    simp only [Act.put, List.getElem_toArray, List.getElem_cons_succ, List.getElem_cons_zero, List.setIfInBounds_toArray, List.set_cons_succ, List.set_cons_zero]
    refine wpAnyH_take (i := 3) (v := ?_) rfl (by kernel_rfl) (by kernel_rfl) (by kernel_rfl) (fun _ _ _ h => h) (Or.inl ⟨rfl, ?_⟩) hHeld ?_
    rotate_left
    · intro w' hS; obtain ⟨⟨s0, s1, s2⟩, ⟨a0, a1, a2, a3, a4, a5, a6, a7⟩, a8⟩ := hS; go_simp <;> with_reducible rfl
    simp only [Act.put, List.getElem_toArray, List.getElem_cons_succ, List.getElem_cons_zero, List.setIfInBounds_toArray, List.set_cons_succ, List.set_cons_zero]
    refine wpAnyH_ready (rs := [1, 8]) (by kernel_rfl) (by simp) (AllReadyH.cons rfl (fun K hK => ?_) (AllReadyH.cons rfl (fun K hK => ?_) AllReadyH.nil))
    · go_simp
      refine (crewRiver_any A n0 B m d xs bs s _ (by exact hA.below ht) (by exact hB.below ht) HX.out HY.out hn1 hn7 hm8 HW.out).mono ?_
      rintro e w2 ⟨gL, g, E1, c1, rfl, hF, hb⟩
      replace ht := below_then ht hb ht.size
      replace hc := hc.below hb
      replace hp := hp.below hb
      replace hr := hr.below hb
      clear hb
      refine hK.out _ _ ⟨box3_of hc, row8_of hp, hp.cell 8⟩ (fun hHeld => ?_)
      clear hK K
      try simp only [Act.put, List.getElem_toArray, List.getElem_cons_succ, List.getElem_cons_zero, List.setIfInBounds_toArray, List.set_cons_succ, List.set_cons_zero]
      refine wpAnyH_ready (rs := [4, 8]) (by kernel_rfl) (by simp) (AllReadyH.cons rfl (fun K hK => ?_) (AllReadyH.cons rfl (fun K hK => ?_) AllReadyH.nil))
      · go_simp
        have hsb := behindCrew_is (loadOf xs) n0 gL g E1 E c1 r y (crewLists xs bs s) sb t l _ P ok (by omega) HBS.out HSM.out HUP.out hF (by exact hE.below ht) HL.out hrr HIS.out
        rw [HPL.out] at hsb
        unfold place9 at hsb
        refine hsb.mono ?_
        clear hsb
        rintro e w4 ⟨rfl, hb⟩
        replace ht := below_then ht hb ht.size
        replace hc := hc.below hb
        replace hp := hp.below hb
        replace hr := hr.below hb
        clear hb
        refine hK.out _ _ ⟨box3_of hc, row8_of hp, hp.cell 8⟩ (fun hHeld => ?_)
        clear hK K
        try simp only [Act.put, List.getElem_toArray, List.getElem_cons_succ, List.getElem_cons_zero, List.setIfInBounds_toArray, List.set_cons_succ, List.set_cons_zero]
        refine wpAnyH_take (i := 5) (v := ?_) rfl (by kernel_rfl) (by kernel_rfl) (by kernel_rfl) (fun _ _ _ h => h) (Or.inl ⟨rfl, ?_⟩) hHeld ?_
        rotate_left
        · intro w' hS; obtain ⟨⟨s0, s1, s2⟩, ⟨a0, a1, a2, a3, a4, a5, a6, a7⟩, a8⟩ := hS; go_simp <;> with_reducible rfl
        simp only [Act.put, List.getElem_toArray, List.getElem_cons_succ, List.getElem_cons_zero, List.setIfInBounds_toArray, List.set_cons_succ, List.set_cons_zero]
        refine wpAnyH_take (i := 6) (v := ?_) rfl (by kernel_rfl) (by kernel_rfl) (by kernel_rfl) (fun _ _ _ h => h) (Or.inl ⟨rfl, ?_⟩) hHeld ?_
        rotate_left
        · intro w' hS; obtain ⟨⟨s0, s1, s2⟩, ⟨a0, a1, a2, a3, a4, a5, a6, a7⟩, a8⟩ := hS; go_simp <;> with_reducible rfl
        simp only [Act.put, List.getElem_toArray, List.getElem_cons_succ, List.getElem_cons_zero, List.setIfInBounds_toArray, List.set_cons_succ, List.set_cons_zero]
        refine wpAnyH_take (i := 7) (v := ?_) rfl (by kernel_rfl) (by kernel_rfl) (by kernel_rfl) (fun _ _ _ h => h) (Or.inl ⟨rfl, ?_⟩) hHeld ?_
        rotate_left
        · intro w' hS; obtain ⟨⟨s0, s1, s2⟩, ⟨a0, a1, a2, a3, a4, a5, a6, a7⟩, a8⟩ := hS; go_simp <;> with_reducible rfl
        simp only [Act.put, List.getElem_toArray, List.getElem_cons_succ, List.getElem_cons_zero, List.setIfInBounds_toArray, List.set_cons_succ, List.set_cons_zero]
        refine wpAnyH_ready (rs := [8]) (by kernel_rfl) (by simp) (AllReadyH.cons rfl (fun K hK => ?_) AllReadyH.nil)
        go_simp
        have hx := fresh_of hc 79 #[.bool false, .bool false, .bool false, .bool false, .bool false, .bool false, .bool false, .bool false, .bool false]
        try simp only [World.size_drew] at hx
        have hlx := hr.lt
        have hlp := hp.lt
        try simp only [World.size_drew] at hlx hlp
        replace ht := ht.alloc ht.size (.cells #[.bool false, .bool false, .bool false, .bool false, .bool false, .bool false, .bool false, .bool false, .bool false] 79)
        replace hc := hc.alloc (.cells #[.bool false, .bool false, .bool false, .bool false, .bool false, .bool false, .bool false, .bool false, .bool false] 79)
        replace hp := hp.alloc (.cells #[.bool false, .bool false, .bool false, .bool false, .bool false, .bool false, .bool false, .bool false, .bool false] 79)
        replace hr := hr.alloc (.cells #[.bool false, .bool false, .bool false, .bool false, .bool false, .bool false, .bool false, .bool false, .bool false] 79)
        replace hF := hF.alloc (.cells #[.bool false, .bool false, .bool false, .bool false, .bool false, .bool false, .bool false, .bool false, .bool false] 79)
        refine hK.out _ _ ⟨box3_of hc, row8_of hp, hp.cell 8⟩ (fun hHeld => ?_)
        clear hK K
        try simp only [Act.put, List.getElem_toArray, List.getElem_cons_succ, List.getElem_cons_zero, List.setIfInBounds_toArray, List.set_cons_succ, List.set_cons_zero]
        refine wpAnyH_ready (rs := [9]) (by kernel_rfl) (by simp) (AllReadyH.cons rfl (fun K hK => ?_) AllReadyH.nil)
        have hrl := hr.lt
        refine wp_store_row 79 (.tmp 10) (.tmp 26) rfl w4.heap.size P rfl rfl 79 #[.bool false, .bool false, .bool false, .bool false, .bool false, .bool false, .bool false, .bool false, .bool false] hx (by rw [HSZ.out]; exact size_place) (by rw [HSZ.out]; rfl) HONE.out ?_
        have o9 := only_setRow (w4.alloc (.cells #[.bool false, .bool false, .bool false, .bool false, .bool false, .bool false, .bool false, .bool false, .bool false] 79)) w4.heap.size P
        have x9 := whole_setRow P hx
        have c9 := o9.whole hc (by omega)
        have p9 := o9.whole hp (by omega)
        have r9 := o9.whole hr (by omega)
        have t9 := o9.below ht (by omega)
        generalize World.setRow (w4.alloc (.cells #[.bool false, .bool false, .bool false, .bool false, .bool false, .bool false, .bool false, .bool false, .bool false] 79)) w4.heap.size P = w9 at o9 x9 c9 p9 r9 t9 ⊢
        refine hK.out _ _ ⟨box3_of c9, row8_of p9, p9.cell 8⟩ (fun hHeld => ?_)
        clear hK K
        try simp only [Act.put, List.getElem_toArray, List.getElem_cons_succ, List.getElem_cons_zero, List.setIfInBounds_toArray, List.set_cons_succ, List.set_cons_zero]
        refine wpAnyH_take (i := 10) (v := ?_) rfl (by kernel_rfl) (by kernel_rfl) (by kernel_rfl) (fun _ _ _ h => h) (Or.inl ⟨rfl, ?_⟩) hHeld ?_
        rotate_left
        · intro w' hS; obtain ⟨⟨s0, s1, s2⟩, ⟨a0, a1, a2, a3, a4, a5, a6, a7⟩, a8⟩ := hS; go_simp <;> with_reducible rfl
        simp only [Act.put, List.getElem_toArray, List.getElem_cons_succ, List.getElem_cons_zero, List.setIfInBounds_toArray, List.set_cons_succ, List.set_cons_zero]
        refine wpAnyH_done (by kernel_rfl) ?_ _
        clear hHeld
        go_wp2_with fail
        go_meet
        exact ⟨w4.heap.size, rfl, rfl, x9, c9, r9, by omega, t9⟩
      · go_simp
        have hx := fresh_of hc 79 #[.bool false, .bool false, .bool false, .bool false, .bool false, .bool false, .bool false, .bool false, .bool false]
        try simp only [World.size_drew] at hx
        have hlx := hr.lt
        have hlp := hp.lt
        try simp only [World.size_drew] at hlx hlp
        replace ht := ht.alloc ht.size (.cells #[.bool false, .bool false, .bool false, .bool false, .bool false, .bool false, .bool false, .bool false, .bool false] 79)
        replace hc := hc.alloc (.cells #[.bool false, .bool false, .bool false, .bool false, .bool false, .bool false, .bool false, .bool false, .bool false] 79)
        replace hp := hp.alloc (.cells #[.bool false, .bool false, .bool false, .bool false, .bool false, .bool false, .bool false, .bool false, .bool false] 79)
        replace hr := hr.alloc (.cells #[.bool false, .bool false, .bool false, .bool false, .bool false, .bool false, .bool false, .bool false, .bool false] 79)
        replace hF := hF.alloc (.cells #[.bool false, .bool false, .bool false, .bool false, .bool false, .bool false, .bool false, .bool false, .bool false] 79)
        refine hK.out _ _ ⟨box3_of hc, row8_of hp, hp.cell 8⟩ (fun hHeld => ?_)
        clear hK K
        try simp only [Act.put, List.getElem_toArray, List.getElem_cons_succ, List.getElem_cons_zero, List.setIfInBounds_toArray, List.set_cons_succ, List.set_cons_zero]
        refine wpAnyH_ready (rs := [4]) (by kernel_rfl) (by simp) (AllReadyH.cons rfl (fun K hK => ?_) AllReadyH.nil)
        go_simp
        have hsb := behindCrew_is (loadOf xs) n0 gL g E1 E c1 r y (crewLists xs bs s) sb t l _ P ok (by omega) HBS.out HSM.out HUP.out hF (by exact hE.below ht) HL.out hrr HIS.out
        rw [HPL.out] at hsb
        unfold place9 at hsb
        refine hsb.mono ?_
        clear hsb
        rintro e w4 ⟨rfl, hb⟩
        replace ht := below_then ht hb ht.size
        replace hc := hc.below hb
        replace hp := hp.below hb
        replace hr := hr.below hb
        replace hx := hx.below hb
        clear hb
        refine hK.out _ _ ⟨box3_of hc, row8_of hp, hp.cell 8⟩ (fun hHeld => ?_)
        clear hK K
        try simp only [Act.put, List.getElem_toArray, List.getElem_cons_succ, List.getElem_cons_zero, List.setIfInBounds_toArray, List.set_cons_succ, List.set_cons_zero]
        refine wpAnyH_take (i := 5) (v := ?_) rfl (by kernel_rfl) (by kernel_rfl) (by kernel_rfl) (fun _ _ _ h => h) (Or.inl ⟨rfl, ?_⟩) hHeld ?_
        rotate_left
        · intro w' hS; obtain ⟨⟨s0, s1, s2⟩, ⟨a0, a1, a2, a3, a4, a5, a6, a7⟩, a8⟩ := hS; go_simp <;> with_reducible rfl
        simp only [Act.put, List.getElem_toArray, List.getElem_cons_succ, List.getElem_cons_zero, List.setIfInBounds_toArray, List.set_cons_succ, List.set_cons_zero]
        refine wpAnyH_take (i := 6) (v := ?_) rfl (by kernel_rfl) (by kernel_rfl) (by kernel_rfl) (fun _ _ _ h => h) (Or.inl ⟨rfl, ?_⟩) hHeld ?_
        rotate_left
        · intro w' hS; obtain ⟨⟨s0, s1, s2⟩, ⟨a0, a1, a2, a3, a4, a5, a6, a7⟩, a8⟩ := hS; go_simp <;> with_reducible rfl
        simp only [Act.put, List.getElem_toArray, List.getElem_cons_succ, List.getElem_cons_zero, List.setIfInBounds_toArray, List.set_cons_succ, List.set_cons_zero]
        refine wpAnyH_take (i := 7) (v := ?_) rfl (by kernel_rfl) (by kernel_rfl) (by kernel_rfl) (fun _ _ _ h => h) (Or.inl ⟨rfl, ?_⟩) hHeld ?_
        rotate_left
        · intro w' hS; obtain ⟨⟨s0, s1, s2⟩, ⟨a0, a1, a2, a3, a4, a5, a6, a7⟩, a8⟩ := hS; go_simp <;> with_reducible rfl
        simp only [Act.put, List.getElem_toArray, List.getElem_cons_succ, List.getElem_cons_zero, List.setIfInBounds_toArray, List.set_cons_succ, List.set_cons_zero]
        refine wpAnyH_ready (rs := [9]) (by kernel_rfl) (by simp) (AllReadyH.cons rfl (fun K hK => ?_) AllReadyH.nil)
        have hrl := hr.lt
        refine wp_store_row 79 (.tmp 10) (.tmp 26) rfl w2.heap.size P rfl rfl 79 #[.bool false, .bool false, .bool false, .bool false, .bool false, .bool false, .bool false, .bool false, .bool false] hx (by rw [HSZ.out]; exact size_place) (by rw [HSZ.out]; rfl) HONE.out ?_
        have o9 := only_setRow w4 w2.heap.size P
        have x9 := whole_setRow P hx
        have c9 := o9.whole hc (by omega)
        have p9 := o9.whole hp (by omega)
        have r9 := o9.whole hr (by omega)
        have t9 := o9.below ht (by omega)
        generalize World.setRow w4 w2.heap.size P = w9 at o9 x9 c9 p9 r9 t9 ⊢
        refine hK.out _ _ ⟨box3_of c9, row8_of p9, p9.cell 8⟩ (fun hHeld => ?_)
        clear hK K
        try simp only [Act.put, List.getElem_toArray, List.getElem_cons_succ, List.getElem_cons_zero, List.setIfInBounds_toArray, List.set_cons_succ, List.set_cons_zero]
        refine wpAnyH_take (i := 10) (v := ?_) rfl (by kernel_rfl) (by kernel_rfl) (by kernel_rfl) (fun _ _ _ h => h) (Or.inl ⟨rfl, ?_⟩) hHeld ?_
        rotate_left
        · intro w' hS; obtain ⟨⟨s0, s1, s2⟩, ⟨a0, a1, a2, a3, a4, a5, a6, a7⟩, a8⟩ := hS; go_simp <;> with_reducible rfl
        simp only [Act.put, List.getElem_toArray, List.getElem_cons_succ, List.getElem_cons_zero, List.setIfInBounds_toArray, List.set_cons_succ, List.set_cons_zero]
        refine wpAnyH_done (by kernel_rfl) ?_ _
        clear hHeld
        go_wp2_with fail
        go_meet
        exact ⟨w2.heap.size, rfl, rfl, x9, c9, r9, by omega, t9⟩
    · go_simp
      have hx := fresh_of hc 79 #[.bool false, .bool false, .bool false, .bool false, .bool false, .bool false, .bool false, .bool false, .bool false]
      try simp only [World.size_drew] at hx
      have hlx := hr.lt
      have hlp := hp.lt
      try simp only [World.size_drew] at hlx hlp
      replace ht := ht.alloc ht.size (.cells #[.bool false, .bool false, .bool false, .bool false, .bool false, .bool false, .bool false, .bool false, .bool false] 79)
      replace hc := hc.alloc (.cells #[.bool false, .bool false, .bool false, .bool false, .bool false, .bool false, .bool false, .bool false, .bool false] 79)
      replace hp := hp.alloc (.cells #[.bool false, .bool false, .bool false, .bool false, .bool false, .bool false, .bool false, .bool false, .bool false] 79)
      replace hr := hr.alloc (.cells #[.bool false, .bool false, .bool false, .bool false, .bool false, .bool false, .bool false, .bool false, .bool false] 79)
      refine hK.out _ _ ⟨box3_of hc, row8_of hp, hp.cell 8⟩ (fun hHeld => ?_)
      clear hK K
      try simp only [Act.put, List.getElem_toArray, List.getElem_cons_succ, List.getElem_cons_zero, List.setIfInBounds_toArray, List.set_cons_succ, List.set_cons_zero]
      refine wpAnyH_ready (rs := [1]) (by kernel_rfl) (by simp) (AllReadyH.cons rfl (fun K hK => ?_) AllReadyH.nil)
      go_simp
      refine (crewRiver_any A n0 B m d xs bs s _ (by exact hA.below ht) (by exact hB.below ht) HX.out HY.out hn1 hn7 hm8 HW.out).mono ?_
      rintro e w2 ⟨gL, g, E1, c1, rfl, hF, hb⟩
      replace ht := below_then ht hb ht.size
      replace hc := hc.below hb
      replace hp := hp.below hb
      replace hr := hr.below hb
      replace hx := hx.below hb
      clear hb
      refine hK.out _ _ ⟨box3_of hc, row8_of hp, hp.cell 8⟩ (fun hHeld => ?_)
      clear hK K
      try simp only [Act.put, List.getElem_toArray, List.getElem_cons_succ, List.getElem_cons_zero, List.setIfInBounds_toArray, List.set_cons_succ, List.set_cons_zero]
      refine wpAnyH_ready (rs := [4]) (by kernel_rfl) (by simp) (AllReadyH.cons rfl (fun K hK => ?_) AllReadyH.nil)
      go_simp
      have hsb := behindCrew_is (loadOf xs) n0 gL g E1 E c1 r y (crewLists xs bs s) sb t l _ P ok (by omega) HBS.out HSM.out HUP.out hF (by exact hE.below ht) HL.out hrr HIS.out
      rw [HPL.out] at hsb
      unfold place9 at hsb
      refine hsb.mono ?_
      clear hsb
      rintro e w4 ⟨rfl, hb⟩
      replace ht := below_then ht hb ht.size
      replace hc := hc.below hb
      replace hp := hp.below hb
      replace hr := hr.below hb
      replace hx := hx.below hb
      clear hb
      refine hK.out _ _ ⟨box3_of hc, row8_of hp, hp.cell 8⟩ (fun hHeld => ?_)
      clear hK K
      try simp only [Act.put, List.getElem_toArray, List.getElem_cons_succ, List.getElem_cons_zero, List.setIfInBounds_toArray, List.set_cons_succ, List.set_cons_zero]
      refine wpAnyH_take (i := 5) (v := ?_) rfl (by kernel_rfl) (by kernel_rfl) (by kernel_rfl) (fun _ _ _ h => h) (Or.inl ⟨rfl, ?_⟩) hHeld ?_
      rotate_left
      · intro w' hS; obtain ⟨⟨s0, s1, s2⟩, ⟨a0, a1, a2, a3, a4, a5, a6, a7⟩, a8⟩ := hS; go_simp <;> with_reducible rfl
      simp only [Act.put, List.getElem_toArray, List.getElem_cons_succ, List.getElem_cons_zero, List.setIfInBounds_toArray, List.set_cons_succ, List.set_cons_zero]
      refine wpAnyH_take (i := 6) (v := ?_) rfl (by kernel_rfl) (by kernel_rfl) (by kernel_rfl) (fun _ _ _ h => h) (Or.inl ⟨rfl, ?_⟩) hHeld ?_
      rotate_left
      · intro w' hS; obtain ⟨⟨s0, s1, s2⟩, ⟨a0, a1, a2, a3, a4, a5, a6, a7⟩, a8⟩ := hS; go_simp <;> with_reducible rfl
      simp only [Act.put, List.getElem_toArray, List.getElem_cons_succ, List.getElem_cons_zero, List.setIfInBounds_toArray, List.set_cons_succ, List.set_cons_zero]
      refine wpAnyH_take (i := 7) (v := ?_) rfl (by kernel_rfl) (by kernel_rfl) (by kernel_rfl) (fun _ _ _ h => h) (Or.inl ⟨rfl, ?_⟩) hHeld ?_
      rotate_left
      · intro w' hS; obtain ⟨⟨s0, s1, s2⟩, ⟨a0, a1, a2, a3, a4, a5, a6, a7⟩, a8⟩ := hS; go_simp <;> with_reducible rfl
      simp only [Act.put, List.getElem_toArray, List.getElem_cons_succ, List.getElem_cons_zero, List.setIfInBounds_toArray, List.set_cons_succ, List.set_cons_zero]
      refine wpAnyH_ready (rs := [9]) (by kernel_rfl) (by simp) (AllReadyH.cons rfl (fun K hK => ?_) AllReadyH.nil)
      have hrl := hr.lt
      refine wp_store_row 79 (.tmp 10) (.tmp 26) rfl W1.heap.size P rfl rfl 79 #[.bool false, .bool false, .bool false, .bool false, .bool false, .bool false, .bool false, .bool false, .bool false] hx (by rw [HSZ.out]; exact size_place) (by rw [HSZ.out]; rfl) HONE.out ?_
      have o9 := only_setRow w4 W1.heap.size P
      have x9 := whole_setRow P hx
      have c9 := o9.whole hc (by omega)
      have p9 := o9.whole hp (by omega)
      have r9 := o9.whole hr (by omega)
      have t9 := o9.below ht (by omega)
      generalize World.setRow w4 W1.heap.size P = w9 at o9 x9 c9 p9 r9 t9 ⊢
      refine hK.out _ _ ⟨box3_of c9, row8_of p9, p9.cell 8⟩ (fun hHeld => ?_)
      clear hK K
      try simp only [Act.put, List.getElem_toArray, List.getElem_cons_succ, List.getElem_cons_zero, List.setIfInBounds_toArray, List.set_cons_succ, List.set_cons_zero]
      refine wpAnyH_take (i := 10) (v := ?_) rfl (by kernel_rfl) (by kernel_rfl) (by kernel_rfl) (fun _ _ _ h => h) (Or.inl ⟨rfl, ?_⟩) hHeld ?_
      rotate_left
      · intro w' hS; obtain ⟨⟨s0, s1, s2⟩, ⟨a0, a1, a2, a3, a4, a5, a6, a7⟩, a8⟩ := hS; go_simp <;> with_reducible rfl
      simp only [Act.put, List.getElem_toArray, List.getElem_cons_succ, List.getElem_cons_zero, List.setIfInBounds_toArray, List.set_cons_succ, List.set_cons_zero]
      refine wpAnyH_done (by kernel_rfl) ?_ _
      clear hHeld
      go_wp2_with fail
      go_meet
      exact ⟨W1.heap.size, rfl, rfl, x9, c9, r9, by omega, t9⟩
  case rest =>
    clear hp hc hr ht hpl hgl
    obtain ⟨g, rfl, rfl, hx, hc, hr, hg, ht⟩ := hcut
    cases ok
    · have HF := Lib.hid (rideW_no HOK.out)
      obtain ⟨r0, r1, g0, g1⟩ := hr.two
      have hrl := hr.lt
      clear hc hr
      go_wp2
      refine bodyPost_ret (v := .tuple #[.agg #[.slice none 0 0, .bool false], .bool false]) (by simp [results, Try.results37, go_sem, r0, r1]) rfl (by rw [HF.out.1, HF.out.2.1, HF.out.2.2]; exact ⟨none, 0, rfl, .inl rfl, below_set (below_set ht (by omega)) (by omega)⟩)
    · have HF := Lib.hid (rideW_yes HOK.out)
      have HPC : Hid (P = placeCells (flipped sb l) (!t)) := by
        show _ = _
        rcases HIS.out with ⟨-, h, -⟩ | ⟨-, -, h⟩
        · exact h
        · cases h
      rw [HPC.out] at hx
      have HFL := Lib.hid (show (flipped sb l).length = n0 by rw [flipped_len]; exact HBS.out)
      obtain ⟨c0, c1, c2⟩ := hc.cells3
      go_wp2_with (refine wpList_load_row rfl 79 (.tmp 10) rfl g rfl 79 (placeCells (flipped sb l) (!t)) (0, 0) _ hx Try.underlying79 rfl size_place ?_)
      refine (placeState_any (flipped sb l) (!t) n0 wc HFL.out (by omega)).mono ?_
      rintro e w5 ⟨E5, r5, rfl, hf, hb⟩
      replace ht := below_then ht hb ht.size
      have hlo := hr.lt
      replace hr := hr.below hb
      obtain ⟨r0, r1, g0, g1⟩ := hr.two
      have hFF := ((hf.set_out (b := w.heap.size + 1 + 1) (o := 0) (u := .slice E5 (flipped sb l).length r5) (.inl (by omega))).set_out (b := w.heap.size + 1 + 1) (o := 1) (u := .bool (!t)) (.inl (by omega))).more (lo' := w.heap.size) (hi' := w5.heap.size) (by omega) (Nat.le_refl _)
      have HFF := Lib.hid hFF
      clear hb hr hf hFF hx hc c0 c1 c2
      go_wp2
      refine bodyPost_ret (v := .tuple #[.agg #[.slice E5 (flipped sb l).length r5, .bool (!t)], .bool true]) (by simp [results, Try.results37, go_sem, r0, r1]) rfl ?_
      rw [HF.out.1, HF.out.2.1, HF.out.2.2]
      refine ⟨E5, r5, rfl, ?_, below_set (below_set ht (by omega)) (by omega)⟩
      have h := HFF.out
      simpa [World.setCell] using h
end Go.Proofs.Ytoedcieofjcgkaa

namespace Go.Proofs.Ytoedcieofjcgkaa
open Go.RowKit

theorem size_st : (Try.prog.info? 48).map (·.size) = some 2 := by kernel_rfl
theorem Fresh.only {w w' : World} {lo hi b : Nat} {ty : TypeId} {A : Option Addr} {xs : List Value} (hf : Fresh w lo hi ty A xs) (o : Only b w w') (hb : b < lo) : Fresh w' lo hi ty A xs := by
  rcases hf with rfl | ⟨g, cs, hA, h1, h2, hw, h3, h4⟩
  · exact .inl rfl
  · exact .inr ⟨g, cs, hA, h1, h2, o.whole hw (by omega), h3, h4⟩
/-- Is the list a row in a calm state? -/
noncomputable def boatOk (a b : Int) (bs : List Bool) (t : Bool) (l : List Int) : Bool := calmIn a b bs t && tripM a.toNat b (codeOf bs t) l
noncomputable def boatBits (a b : Int) (bs : List Bool) (t : Bool) (l : List Int) : List Bool := if boatOk a b bs t l then flipped bs l else []
noncomputable def boatTorch (a b : Int) (bs : List Bool) (t : Bool) (l : List Int) : Bool := boatOk a b bs t l && !t
theorem boat_no {a b : Int} {bs : List Bool} {t : Bool} {l : List Int} (h : boatOk a b bs t l = false) : boatBits a b bs t l = [] ∧ boatTorch a b bs t l = false ∧ boatOk a b bs t l = false := by simp [boatBits, boatTorch, h]
theorem boat_yes {a b : Int} {bs : List Bool} {t : Bool} {l : List Int} (h : boatOk a b bs t l = true) : boatBits a b bs t l = flipped bs l ∧ boatTorch a b bs t l = !t ∧ boatOk a b bs t l = true := by simp [boatBits, boatTorch, h]
theorem bits_back {n : Nat} {cs : List Bool} {u : Bool} (h : cs.length = n) : bitsOf (codeOf cs u / 2) n = cs := by
  refine List.ext_getElem (by rw [bitsOf_len, h]) fun i h1 h2 => ?_
  have hb := bit_maskUp (fun i => cs.getD i false) cs.length i
  rw [← code_half cs u] at hb
  simp only [bitsOf, List.getElem_map, List.getElem_range]
  rw [hb]
  simp [h2]
theorem torch_back (cs : List Bool) (u : Bool) : bitAt (codeOf cs u) 0 = u := by rw [bit_code]; rfl

end Go.Proofs.Ytoedcieofjcgkaa

namespace Go.Proofs.Ytoedcieofjcgkaa
open Go.RowKit

theorem rows_of_same {k q x : Nat} (h : (!quiet k (bitAt (x / 2)) || rowsSame k q x) = true) (hq : quiet k (bitAt (x / 2)) = true) : (rowsM k q x (2 ^ (2 * k) - 1) 1 []).map listOf = rowsIn k q (bitsOf (x / 2) (2 * k)) (bitAt x 0) := by
  rw [hq, Bool.not_true, Bool.false_or] at h
  exact eq_of_beq h
theorem rows_list {k q : Nat} {bs : List Bool} {t : Bool} (hk1 : 1 ≤ k) (hk : k ≤ 4) (hq1 : 1 ≤ q) (hq4 : q ≤ 4) (hl : bs.length = 2 * k) (hq : quiet k (bitAt (codeOf bs t / 2)) = true) : (rowsM k q (codeOf bs t) (2 ^ (2 * k) - 1) 1 []).map listOf = rowsIn k q bs t := by
  have hx := code_lt bs t
  rw [hl] at hx
  have key : (rowsM k q (codeOf bs t) (2 ^ (2 * k) - 1) 1 []).map listOf = rowsIn k q (bitsOf (codeOf bs t / 2) (2 * k)) (bitAt (codeOf bs t) 0) := by
    obtain ⟨p, rfl⟩ : ∃ p, q = p + 1 := ⟨q - 1, by omega⟩
    refine rows_of_same ?_ hq
    generalize codeOf bs t = x at hx
    obtain rfl | rfl | rfl | rfl : k = 1 ∨ k = 2 ∨ k = 3 ∨ k = 4 := by omega
    · exact List.all_eq_true.1 (List.all_eq_true.1 rows_same1 p (List.mem_range.2 (by omega))) x (List.mem_range.2 (by omega))
    · exact List.all_eq_true.1 (List.all_eq_true.1 rows_same2 p (List.mem_range.2 (by omega))) x (List.mem_range.2 (by omega))
    · exact List.all_eq_true.1 (List.all_eq_true.1 rows_same3 p (List.mem_range.2 (by omega))) x (List.mem_range.2 (by omega))
    · exact List.all_eq_true.1 (List.all_eq_true.1 rows_same4 p (List.mem_range.2 (by omega))) x (List.mem_range.2 (by omega))
  rw [key, bits_back hl, torch_back]
theorem rowsM_mem (k : Nat) (q : Int) (x : Nat) : ∀ (n g : Nat) (out : List Nat), (∀ y ∈ out, y < 256) → g + n ≤ 256 → ∀ y ∈ rowsM k q x n g out, y < 256
  | 0, _, _, h, _ => h
  | n + 1, g, out, h, hg => rowsM_mem k q x n (g + 1) _ (by split; { exact insG_mem h (by omega) }; { exact h }) (by omega)
theorem rowsM_len (k : Nat) (q : Int) (x : Nat) : ∀ (n g : Nat) (out : List Nat), (rowsM k q x n g out).length ≤ out.length + n
  | 0, _, out => Nat.le_refl _
  | n + 1, g, out => by
    rw [rowsM_next]
    refine Nat.le_trans (rowsM_len k q x n (g + 1) _) ?_
    split
    · rw [insG_len]; omega
    · omega
/-- The rows of a state: none where it isn't calm. -/
noncomputable def rowsLs (a b : Int) (bs : List Bool) (t : Bool) : List (List Int) := if calmIn a b bs t then rowsIn a.toNat b.toNat bs t else []
theorem rowsLs_le {a b : Int} {bs : List Bool} {t : Bool} : (rowsLs a b bs t).length ≤ 1048576 ∧ ((rowsLs a b bs t).map List.length).sum ≤ 1048576 := by
  cases h : calmIn a b bs t
  · simp [rowsLs, h]
  · have hp : isPlace a b bs t = true := by
      cases hp : isPlace a b bs t
      · rw [calmIn_no hp] at h; cases h
      · rfl
    obtain ⟨k, rfl, hk1, hk, hb1, hb4, -, -, hl⟩ := place_co hp
    obtain ⟨q, rfl⟩ : ∃ q : Nat, b = q := ⟨b.toNat, by omega⟩
    have hq : quiet k (bitAt (codeOf bs t / 2)) = true := by rw [quiet_code (c := k) (t := t) hl, ← calmIn_yes hp]; exact h
    have hr := rows_list (q := q) hk1 hk (by omega) (by omega) hl hq
    rw [show rowsLs k q bs t = rowsIn k q bs t by simp [rowsLs, h], ← hr]
    have h1 := rowsM_len k q (codeOf bs t) (2 ^ (2 * k) - 1) 1 []
    have hp4 := pow_c hk
    generalize rowsM k q (codeOf bs t) (2 ^ (2 * k) - 1) 1 [] = R at h1
    have h2 := sum_lens (k := 8) (ls := R.map listOf) fun l hl => by obtain ⟨g, -, rfl⟩ := List.mem_map.1 hl; exact listOf_le g
    rw [List.length_map] at h2 ⊢
    simp only [List.length_nil] at h1
    omega

end Go.Proofs.Ytoedcieofjcgkaa

namespace Go.Proofs.Ytoedcieofjcgkaa
open Go.RowKit

/-- Heads of the call's own over rows that lie spread below them. -/
theorem heads_of_spread {w4 wr : World} {lo c : Nat} {A D : Option Addr} {rs : List RowV} (hs : Spread w4 lo A rs) (hb : Below w4.heap.size w4 wr) (ho : wr.ownsRow w4.heap.size 33 1 (.slice D rs.length c) rs.length (rowVals rs)) (hl : lo ≤ w4.heap.size) : Heads wr lo D c rs := by
  obtain ⟨ps, h2, h3, -⟩ := hs
  refine ⟨own_lower ho hl, ps, h2.below hb, fun p hp => ⟨(h3 p hp).1, Nat.le_trans (h3 p hp).2 hb.size⟩, fun a ha p hp => .inr ?_⟩
  subst ha
  exact Nat.le_trans (h3 p hp).2 (ho.lt a.block rfl).1

end Go.Proofs.Ytoedcieofjcgkaa

namespace Go.Proofs.Ytoedcieofjcgkaa
open Go.RowKit

/-- The rides that are told. -/
def ridesLs (xs : List Int) (bs : List Bool) (m : Nat) (s : Int) (sb : List Bool) (t : Bool) : List (List Int) := if crewState xs m s sb t then ridesAt sb t (crewLists xs bs s) else []

set_option maxHeartbeats 12800000 in
set_option maxRecDepth 100000 in
set_option linter.unusedSimpArgs false in
set_option linter.unusedVariables false in
theorem implRidesOfCrew_any (A : Option Addr) (n0 : Nat) (B : Option Addr) (m d : Nat) (xs : List Int) (bs : List Bool) (s : Int) (D0 : Option Addr) (q z : Nat) (sb : List Bool) (t : Bool) (w : World) (hA : Holds w A (nums xs)) (hB : Holds w B (bits bs)) (hD : Holds w D0 (bits sb)) (hx : xs.length = n0) (hy : bs.length = m) (hqq : sb.length = q) (hn : n0 ≤ 9223372036854775807) (hq : q ≤ 9223372036854775807) :
    Calls Try.prog 29 #[.agg #[.slice A n0 n0, .slice B m d, .int .i64 s], .agg #[.slice D0 q z, .bool t]] w (BackPost (ridesLs xs bs m s sb t) (crewState xs m s sb t) w) := by
  have HX := Lib.hid hx
  have HY := Lib.hid hy
  have HQ := Lib.hid hqq
  have hc := (Whole.fresh w 39 #[.slice A n0 n0, .slice B m d, .int .i64 s]).alloc (.cells #[.slice D0 q z, .bool t] 48)
  have ht := below2 w (.cells #[.slice A n0 n0, .slice B m d, .int .i64 s] 39) (.cells #[.slice D0 q z, .bool t] 48)
  have hcp := crewPlace_any A n0 n0 B m d xs s D0 q z sb t _ (hA.below ht) (hD.below ht) HX.out HQ.out hn hq
  go_enter Try.func29, Try.ntmps29
  go_wp2_with fail
  refine hcp.mono ?_
  clear hcp
  rintro e w1 ⟨⟨hp1, rfl⟩ | ⟨hp1, rfl⟩, hb⟩
  all_goals
    replace ht := below_then ht hb (by simp; omega)
    replace hc := hc.below hb
    have hlc := hc.lt
    clear hb
  rotate_left
  · have HF : Hid (ridesLs xs bs m s sb t = [] ∧ crewState xs m s sb t = false) := ⟨by simp [ridesLs, hp1], hp1⟩
    clear hp1
    unfold placeCells
    replace ht := ht.alloc ht.size (.cells #[.bool false, .bool false, .bool false, .bool false, .bool false, .bool false, .bool false, .bool false, .bool false] 79)
    replace hc := hc.alloc (.cells #[.bool false, .bool false, .bool false, .bool false, .bool false, .bool false, .bool false, .bool false, .bool false] 79)
    go_upto_region 2 with fail
    generalize w1.alloc (.cells #[.bool false, .bool false, .bool false, .bool false, .bool false, .bool false, .bool false, .bool false, .bool false] 79) = W1 at hc ht ⊢
    clear hc
    go_wp2
    go_ret2
    rw [HF.out.1, HF.out.2]
    exact BackPost.no ht
  obtain ⟨hok, hsl⟩ := crewState_ok hp1
  have hn7 : n0 ≤ 7 := by have := hok.seven; omega
  have hn1 : 1 ≤ n0 := by have := hok.one; omega
  have hm8 : m ≤ 8 := by have := hok.rows; omega
  have HW := Lib.hid hok.weights
  have HSM := Lib.hid (crew_small (xs := xs) bs s (by omega))
  have HUP : Hid (∀ l ∈ crewLists xs bs s, l ∈ upLists n0 n0) := fun l hl => by have := crew_up hl; rw [hx] at this; exact this
  have HBS : Hid (sb.length = n0) := by show _ = _; omega
  obtain ⟨f, hf⟩ : ∃ f : Nat → Bool, f = fun i => sb.getD i false := ⟨_, rfl⟩
  have HPL : Hid (placeCells sb t = place9 f t) := by show _ = _; rw [place_nine9, hf]
  have hp := Whole.fresh w1 79 (place9 f t)
  replace ht := ht.alloc ht.size (.cells (place9 f t) 79)
  replace hc := hc.alloc (.cells (place9 f t) 79)
  rw [HPL.out]
  clear hf
  have HF : Hid (ridesLs xs bs m s sb t = ridesAt sb t (crewLists xs bs s) ∧ crewState xs m s sb t = true) := ⟨by simp [ridesLs, hp1], hp1⟩
  obtain ⟨gP, hgP⟩ : ∃ g : Nat, g = w1.heap.size := ⟨_, rfl⟩
  rw [← hgP] at hp
  obtain ⟨i0, hi, hz0, hz1, hz2⟩ := info_parts info_row
  have HI := Lib.hid hi
  have HZ0 := Lib.hid hz0
  have HZ1 := Lib.hid hz1
  have HZ2 := Lib.hid hz2
  clear hp1 hi hz0 hz1 hz2 hok hsl hx hy hqq
  unfold place9 at hc hp ht
  unfold place9
  go_upto_region 5 with fail
  rw [← hgP]
  clear hgP
  generalize w1.alloc (.cells #[.bool (f 0), .bool (f 1), .bool (f 2), .bool (f 3), .bool (f 4), .bool (f 5), .bool (f 6), .bool (f 7), .bool t] 79) = W1 at hc hp ht ⊢
  refine wp_region_held_drew (S := (fun w' => Box3 w.heap.size (.slice A n0 n0) (.slice B m d) (.int .i64 s) w' ∧ Row8 gP f w' ∧ w'.cell? ⟨gP, 8, none⟩ = some (.bool t))) (by kernel_rfl) ⟨box3_of hc.drew, row8_of hp.drew, hp.drew.cell 8⟩ (fun hHeld => ?_)
  replace ht := ht.drew
  replace hc := hc.drew
  replace hp := hp.drew
  refine wpAnyH_take (i := 0) (v := ?_) rfl (by kernel_rfl) (by kernel_rfl) (by kernel_rfl) (fun _ _ _ h => h) (Or.inl ⟨rfl, ?_⟩) hHeld ?_
  rotate_left
  · intro w' hS; obtain ⟨⟨s0, s1, s2⟩, ⟨a0, a1, a2, a3, a4, a5, a6, a7⟩, a8⟩ := hS; go_simp <;> with_reducible rfl
  simp only [Act.put, List.getElem_toArray, List.getElem_cons_succ, List.getElem_cons_zero, List.setIfInBounds_toArray, List.set_cons_succ, List.set_cons_zero]
  refine wpAnyH_take (i := 3) (v := ?_) rfl (by kernel_rfl) (by kernel_rfl) (by kernel_rfl) (fun _ _ _ h => h) (Or.inl ⟨rfl, ?_⟩) hHeld ?_
  rotate_left
  · intro w' hS; obtain ⟨⟨s0, s1, s2⟩, ⟨a0, a1, a2, a3, a4, a5, a6, a7⟩, a8⟩ := hS; go_simp <;> with_reducible rfl
  simp only [Act.put, List.getElem_toArray, List.getElem_cons_succ, List.getElem_cons_zero, List.setIfInBounds_toArray, List.set_cons_succ, List.set_cons_zero]
  refine wpAnyH_take (i := 6) (v := ?_) rfl (by kernel_rfl) (by kernel_rfl) (by kernel_rfl) (fun _ _ _ h => h) (Or.inl ⟨rfl, ?_⟩) hHeld ?_
  rotate_left
  · intro w' hS; obtain ⟨⟨s0, s1, s2⟩, ⟨a0, a1, a2, a3, a4, a5, a6, a7⟩, a8⟩ := hS; go_simp <;> with_reducible rfl
  simp only [Act.put, List.getElem_toArray, List.getElem_cons_succ, List.getElem_cons_zero, List.setIfInBounds_toArray, List.set_cons_succ, List.set_cons_zero]
  refine wpAnyH_ready (rs := [1]) (by kernel_rfl) (by simp) (AllReadyH.cons rfl (fun K hK => ?_) AllReadyH.nil)
  go_simp
  refine (crewRiver_any A n0 B m d xs bs s _ (by exact hA.below ht) (by exact hB.below ht) HX.out HY.out hn1 hn7 hm8 HW.out).mono ?_
  rintro e w2 ⟨gL, g, E1, c1, rfl, hF, hb⟩
  replace ht := below_then ht hb ht.size
  replace hc := hc.below hb
  replace hp := hp.below hb
  clear hb
  have HT2 := Lib.hid ht
  have hfd : ∀ W : World, (Instr.field 82 (.agg (crewCells n0 gL)) 2).run Try.prog W = .ok (ridesFnV gL) W := fun _ => by kernel_rfl
  unfold crewCells ridesFnV at hfd
  unfold crewCells ridesFnV
  refine hK.out _ _ ⟨box3_of hc, row8_of hp, hp.cell 8⟩ (fun hHeld => ?_)
  clear hK K
  try simp only [Act.put, List.getElem_toArray, List.getElem_cons_succ, List.getElem_cons_zero, List.setIfInBounds_toArray, List.set_cons_succ, List.set_cons_zero]
  refine wpAnyH_take (i := 2) (v := ?_) rfl (by kernel_rfl) (by kernel_rfl) (by kernel_rfl) (fun _ _ _ h => h) (Or.inl ⟨rfl, ?_⟩) hHeld ?_
  rotate_left
  · intro w' hS; obtain ⟨⟨s0, s1, s2⟩, ⟨a0, a1, a2, a3, a4, a5, a6, a7⟩, a8⟩ := hS; go_simp <;> with_reducible rfl
  simp only [Act.put, List.getElem_toArray, List.getElem_cons_succ, List.getElem_cons_zero, List.setIfInBounds_toArray, List.set_cons_succ, List.set_cons_zero]
  refine wpAnyH_ready (rs := [4]) (by kernel_rfl) (by simp) (AllReadyH.cons rfl (fun K hK => ?_) AllReadyH.nil)
  go_simp
  have hrf := ridesFn_any (loadOf xs) n0 gL g E1 c1 (crewLists xs bs s) sb t _ (by omega) HBS.out HSM.out HUP.out hF
  rw [HPL.out] at hrf
  unfold place9 at hrf
  refine hrf.mono ?_
  clear hrf
  rintro e w4 ⟨A1, c2, rs, rfl, hrn, hM, hb⟩
  have hw24 := hb.size
  replace ht := below_then ht hb ht.size
  replace hc := hc.below hb
  replace hp := hp.below hb
  clear hb
  refine hK.out _ _ ⟨box3_of hc, row8_of hp, hp.cell 8⟩ (fun hHeld => ?_)
  clear hK K
  try simp only [Act.put, List.getElem_toArray, List.getElem_cons_succ, List.getElem_cons_zero, List.setIfInBounds_toArray, List.set_cons_succ, List.set_cons_zero]
  refine wpAnyH_take (i := 5) (v := ?_) rfl (by kernel_rfl) (by kernel_rfl) (by kernel_rfl) (fun _ _ _ h => h) (Or.inl ⟨rfl, ?_⟩) hHeld ?_
  rotate_left
  · intro w' hS; obtain ⟨⟨s0, s1, s2⟩, ⟨a0, a1, a2, a3, a4, a5, a6, a7⟩, a8⟩ := hS; go_simp <;> with_reducible rfl
  simp only [Act.put, List.getElem_toArray, List.getElem_cons_succ, List.getElem_cons_zero, List.setIfInBounds_toArray, List.set_cons_succ, List.set_cons_zero]
  refine wpAnyH_done (by kernel_rfl) ?_ _
  clear hHeld
  clear hc hp hF
  have HM := Lib.hid hM
  have HRN := Lib.hid hrn
  have hrl : rs.length ≤ 255 := by have h1 := congrArg List.length hrn; have h2 := rides_len sb t (crewLists xs bs s); have h3 := HSM.out; rw [rowNums_len] at h1; omega
  have HT := Lib.hid ht
  have hws := ht.size
  have HWS : Hid (w.heap.size ≤ w2.heap.size) := HT2.out.size
  clear hM hrn ht
  go_wp2
  go_loopw [8, 25] (fun v i wr => ∃ (j : Nat) (D : Option Addr) (c : Nat), j ≤ rs.length ∧ i = .int .i64 j ∧ v = .slice D j c ∧ wr.ownsRow w4.heap.size 33 1 (.slice D j c) j (rowVals (rs.take j)) ∧ Below w4.heap.size w4 wr) (fun _ i _ => rs.length - (intOf i).toNat)
  case atStart => exact ⟨0, none, 0, Nat.zero_le _, rfl, rfl, World.ownsRow_nil _ _ _ _, Below.refl _ _⟩
  case round =>
    obtain ⟨j, D, c, hj, rfl, rfl, hown, hb⟩ := hrel
    by_cases hlt : j < rs.length
    · have hd : decide ((j : Int) < (rs.length : Int)) = true := by simp; omega
      obtain ⟨gm, rfl, hgl, a0, a1, a2, a3, a4, a5, a6, a7, a8, a9⟩ := moves_row (HM.out.below hb) hlt
      obtain ⟨f', hf'⟩ : ∃ f' : Nat → Bool, f' = fun i => (flipped sb rs[j].xs).getD i false := ⟨_, rfl⟩
      replace a1 : wr.cell? ⟨gm, j * 10 + 1, none⟩ = some (.bool (f' 0)) := by rw [a1, hf']
      replace a2 : wr.cell? ⟨gm, j * 10 + 2, none⟩ = some (.bool (f' 1)) := by rw [a2, hf']
      replace a3 : wr.cell? ⟨gm, j * 10 + 3, none⟩ = some (.bool (f' 2)) := by rw [a3, hf']
      replace a4 : wr.cell? ⟨gm, j * 10 + 4, none⟩ = some (.bool (f' 3)) := by rw [a4, hf']
      replace a5 : wr.cell? ⟨gm, j * 10 + 5, none⟩ = some (.bool (f' 4)) := by rw [a5, hf']
      replace a6 : wr.cell? ⟨gm, j * 10 + 6, none⟩ = some (.bool (f' 5)) := by rw [a6, hf']
      replace a7 : wr.cell? ⟨gm, j * 10 + 7, none⟩ = some (.bool (f' 6)) := by rw [a7, hf']
      replace a8 : wr.cell? ⟨gm, j * 10 + 8, none⟩ = some (.bool (f' 7)) := by rw [a8, hf']
      have hnx : rowVals (rs.take (j + 1)) = rowVals (rs.take j) ++ [rs[j].val] := by
        unfold rowVals
        rw [List.take_succ_eq_append_getElem hlt, List.map_append, List.map_cons, List.map_nil]
      have HNX := Lib.hid hnx
      clear hf' hnx
      generalize rs[j] = r at a0 HNX
      obtain ⟨rA, rn, rc, rx⟩ := r
      unfold RowV.val at a0 HNX
      simp only at a0 HNX
      have hbs := hb.size
      obtain ⟨X, hX⟩ : ∃ X : Obj, X = (.cells #[.slice rA rn rc, .bool (f' 0), .bool (f' 1), .bool (f' 2), .bool (f' 3), .bool (f' 4), .bool (f' 5), .bool (f' 6), .bool (f' 7), .bool (!t)] 95) := ⟨_, rfl⟩
      have HOWN := Lib.hid ((own_keep hown (below1 wr X)).alloc (.cells #[.slice rA rn rc] 33))
      have HB := Lib.hid (hb.alloc hbs X)
      have HMAX := Lib.hid (show j + 1 ≤ maxLen by unfold maxLen; omega)
      have HBYT := Lib.hid (show (j + 1) * 24 ≤ 140737488355328 by omega)
      have HBASE := Lib.hid (show w4.heap.size ≤ ((wr.alloc X).alloc (.cells #[.slice rA rn rc] 33)).heap.size by simp; omega)
      have HB2 := Lib.hid (HB.out.alloc (by simp; omega) (.cells #[.slice rA rn rc] 33))
      have hcn := cell_one_new (wr.alloc X) (.slice rA rn rc) 33
      rw [World.size_alloc] at hcn
      have HCN := Lib.hid hcn
      clear hcn
      subst hX
      clear hown hb
      go_wp2_with (at_builtin; refine wpList_append_lies _ rfl (.tmp 29) (.tmp 32) 24 rfl w4.heap.size 33 i0 (.slice none 0 0) 1 24 Try.underlying24 HI.out HZ0.out HZ1.out HZ2.out rfl (by decide) (.slice D j c) j (rowVals (rs.take j)) rfl HOWN.out ⟨wr.heap.size + 1, 0, none⟩ 1 1 [.slice rA rn rc] rfl rfl HCN.out (by simp [Value.oneCell']) (by decide) HMAX.out HBYT.out HBASE.out (wr.heap.size + 1 + 1) (by simp) ?_; intro g1 cap w5 hown4 hg4 hat hlt4)
      have HBN := Lib.hid (HB2.out.grown hg4 HBASE.out (fun kk hkk => (HOWN.out.lt kk hkk).1))
      have HO4 := Lib.hid hown4
      clear hown4 hg4 hat hlt4 a0 a1 a2 a3 a4 a5 a6 a7 a8 a9
      go_roundw
      case rel => exact ⟨j + 1, some ⟨g1, 0, none⟩, cap, by omega, by go_num, rfl, by rw [HNX.out]; exact HO4.out, HBN.out⟩
      case measure => simp [intOf]; omega
    · obtain rfl : j = rs.length := by omega
      have hd : decide ((rs.length : Int) < (rs.length : Int)) = false := by simp
      rw [List.take_length] at hown
      have HH := Lib.hid ((heads_of_spread HM.out.2 hb hown hw24).raise HWS.out)
      have HBN := Lib.hid (below_then HT.out hb hws)
      clear hown hb
      go_wp2
      go_ret2
      rw [HF.out.1, HF.out.2]
      exact ⟨D, rs.length, c, rs, rfl, HRN.out, rfl, HH.out.free, HBN.out⟩
end Go.Proofs.Ytoedcieofjcgkaa
