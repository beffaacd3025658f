/-
  What is proved: that the model's rows, put in one by one, are the program's, in order. Conditions: at most four couples, at most four seats, a calm state.
  What is proved: contracts of the model's order of rows (cuBefore) and of its rows (cuRows). Conditions: the lists are read as they lie; at most four couples.
  What is proved: least times over a graph are one, are the same there and back where each trip leads back in its time, and a search that settles all places (or one) that wait for the least time finds them. Conditions: each trip takes a time of at least 1.
  What is proved: the contract of the model's paGroups: some people themselves and the rising lists that go on with others. Conditions: the lists are read as they lie; at most eight others, and at most eight to begin with.
  What is proved: plain facts on lists of lists that a call hands back. Conditions: none.
  What is proved: contracts of TripsOf, of the model and of the program. Conditions: the arguments are read as they lie.
  What is proved: which trips the lists of others are, and that each trip leads back in the time in which it led there. Conditions: as each says.
  What is proved: a contract of the model's RowBoat. Conditions: the arguments are read as they lie.
  What is proved: a contract of the model's RowsOf. Conditions: the arguments are read as they lie.
  What is proved: a contract of the program's RowsOf. Conditions: the arguments are read as they lie.
  What is proved: a contract of the program's RidesOfCrew. Conditions: the arguments are read as they lie.
  What is proved: contracts of the model's rides in a state and of its RidesOfCrew. Conditions: the arguments are read as they lie.
  What is proved: the law FnExactRidesOfCrew returns true at every argument, and leaves all that was there as it was. Conditions: the arguments are read as they lie.
-/
import Derived.BigQuiet
import Derived.Deep.QuietTactic
import Derived.Deep.RegionHeld3
import Derived.Deep.DeepCutAuto
import Derived.Laws.AppendOwnNone
import Derived.Deep.CutBlock
import Derived.Test.YtoedcieofjcgkaaJ7RideWithCrew
set_option linter.unusedSimpArgs false
set_option linter.unusedVariables false
namespace Go.Proofs.Ytoedcieofjcgkaa
open Go.RowKit

/-- Does a list come before another one? -/
def lexB : List Int → List Int → Bool
  | [], [] => false
  | [], _ :: _ => true
  | _ :: _, [] => false
  | a :: xs, b :: ys => if a = b then lexB xs ys else decide (a < b)
/-- Where a group goes among the first k of some. -/
def spotG (out : List Nat) (g : Nat) : Nat → Nat
  | 0 => 0
  | k + 1 => if lexB (listOf g) (listOf (out.getD k 0)) then spotG out g k else k + 1
def insG (out : List Nat) (g : Nat) : List Nat := out.take (spotG out g out.length) ++ [g] ++ out.drop (spotG out g out.length)
/-- The rows among the groups from g on, n of them, put into some. -/
def rowsM (k : Nat) (q : Int) (x : Nat) : Nat → Nat → List Nat → List Nat
  | 0, _, out => out
  | n + 1, g, out => rowsM k q x n (g + 1) (if canM k q x g then insG out g else out)
def rowsSame (k q x : Nat) : Bool := (rowsM k q x (2 ^ (2 * k) - 1) 1 []).map listOf == rowsIn k q (bitsOf (x / 2) (2 * k)) (bitAt x 0)
theorem rows_same1 : (List.range 4).all (fun q => (List.range 8).all fun x => !quiet 1 (bitAt (x / 2)) || rowsSame 1 (q + 1) x) = true := by decide +kernel
theorem rows_same2 : (List.range 4).all (fun q => (List.range 32).all fun x => !quiet 2 (bitAt (x / 2)) || rowsSame 2 (q + 1) x) = true := by decide +kernel
theorem rows_same3 : (List.range 4).all (fun q => (List.range 128).all fun x => !quiet 3 (bitAt (x / 2)) || rowsSame 3 (q + 1) x) = true := by decide +kernel
theorem rows_same4 : (List.range 4).all (fun q => (List.range 512).all fun x => !quiet 4 (bitAt (x / 2)) || rowsSame 4 (q + 1) x) = true := by decide +kernel
end Go.Proofs.Ytoedcieofjcgkaa

namespace Go.Proofs.Ytoedcieofjcgkaa
open Go.RowKit

theorem lexB_same {a b : List Int} {k : Nat} (ha : k < a.length) (hb : k < b.length) (he : a[k] = b[k]) : lexB (a.drop k) (b.drop k) = lexB (a.drop (k + 1)) (b.drop (k + 1)) := by
  rw [List.drop_eq_getElem_cons ha, List.drop_eq_getElem_cons hb, lexB, if_pos he]
theorem lexB_part {a b : List Int} {k : Nat} (ha : k < a.length) (hb : k < b.length) (he : a[k] ≠ b[k]) : lexB (a.drop k) (b.drop k) = decide (a[k] < b[k]) := by
  rw [List.drop_eq_getElem_cons ha, List.drop_eq_getElem_cons hb, lexB, if_neg he]
theorem lexB_end {a b : List Int} {k : Nat} (ha : k ≤ a.length) (hb : k ≤ b.length) (h : ¬ (k < a.length ∧ k < b.length)) : lexB (a.drop k) (b.drop k) = decide (a.length < b.length) := by
  by_cases h1 : k < a.length
  · have h2 : b.length ≤ k := by omega
    rw [List.drop_eq_getElem_cons h1, List.drop_of_length_le h2, lexB]
    simp; omega
  · have h2 : a.length ≤ k := by omega
    rw [List.drop_of_length_le h2]
    by_cases h3 : k < b.length
    · rw [List.drop_eq_getElem_cons h3, lexB]
      simp; omega
    · rw [List.drop_of_length_le (by omega), lexB]
      simp; omega

def ofN (l : List Nat) : List Int := l.map Int.ofNat
theorem ofN_len (l : List Nat) : (ofN l).length = l.length := by simp [ofN]
theorem rowsM_next (k : Nat) (q : Int) (x n g : Nat) (out : List Nat) : rowsM k q x (n + 1) g out = rowsM k q x n (g + 1) (if canM k q x g then insG out g else out) := rfl
theorem spotG_le (out : List Nat) (g : Nat) : ∀ k, spotG out g k ≤ k
  | 0 => Nat.le_refl _
  | k + 1 => by
    rw [spotG]
    split
    · have := spotG_le out g k; omega
    · omega
theorem insG_len (out : List Nat) (g : Nat) : (insG out g).length = out.length + 1 := by
  have := spotG_le out g out.length
  simp [insG]
  omega
theorem insG_mem {out : List Nat} {g b : Nat} (h : ∀ y ∈ out, y < b) (hg : g < b) : ∀ y ∈ insG out g, y < b := by
  intro y hy
  simp only [insG, List.mem_append, List.mem_singleton] at hy
  rcases hy with (hy | rfl) | hy
  · exact h y (List.mem_of_mem_take hy)
  · exact hg
  · exact h y (List.mem_of_mem_drop hy)

theorem listOf_le (g : Nat) : (listOf g).length ≤ 8 := by
  unfold listOf listTo
  rw [List.length_map]
  exact Nat.le_trans (List.length_filter_le _ _) (by simp)
theorem whole_grownR {w w' : World} {g : Nat} {ty : TypeId} {cs : Array Value} {row : Option Nat} (h : Whole w g ty cs) (hg : w.grownBy w' row) (hne : ¬ row = some g) : Whole w' g ty cs := (hg.block g h.lt (fun e => hne e.symm)).trans h

end Go.Proofs.Ytoedcieofjcgkaa

namespace Go.Proofs.Ytoedcieofjcgkaa

/-- Least times from a place: the place itself needs 0, no trip leads on sooner, and each other place that is reached has one before it. -/
structure Least {α : Type} (E : α → Int → α → Prop) (src : α) (d : α → Option Int) : Prop where
  start : d src = some 0
  edge : ∀ x t y a, d x = some a → E x t y → ∃ b, d y = some b ∧ b ≤ a + t
  pred : ∀ y b, d y = some b → (y = src ∧ b = 0) ∨ ∃ x t a, d x = some a ∧ E x t y ∧ b = a + t
  low : ∀ y b, d y = some b → 0 ≤ b

theorem least_le {α : Type} {E : α → Int → α → Prop} {src : α} {d1 d2 : α → Option Int} (hE : ∀ x t y, E x t y → 1 ≤ t) (h1 : Least E src d1) (h2 : Least E src d2) :
    ∀ (n : Nat) (y : α) (b : Int), b ≤ n → d1 y = some b → ∃ c, d2 y = some c ∧ c ≤ b := by
  intro n
  induction n with
  | zero =>
    intro y b hb hy
    rcases h1.pred y b hy with ⟨rfl, rfl⟩ | ⟨x, t, a, hx, he, rfl⟩
    · exact ⟨0, h2.start, Int.le_refl _⟩
    · have := h1.low x a hx
      have := hE _ _ _ he
      omega
  | succ n ih =>
    intro y b hb hy
    rcases h1.pred y b hy with ⟨rfl, rfl⟩ | ⟨x, t, a, hx, he, rfl⟩
    · exact ⟨0, h2.start, Int.le_refl _⟩
    · have := hE _ _ _ he
      obtain ⟨a', ha', hle⟩ := ih x a (by omega) hx
      obtain ⟨c, hc, hle2⟩ := h2.edge x t y a' ha' he
      exact ⟨c, hc, by omega⟩
theorem least_one {α : Type} {E : α → Int → α → Prop} {src : α} {d1 d2 : α → Option Int} (hE : ∀ x t y, E x t y → 1 ≤ t) (h1 : Least E src d1) (h2 : Least E src d2) : d1 = d2 := by
  funext y
  cases e1 : d1 y with
  | some b =>
    obtain ⟨c, hc, hle⟩ := least_le hE h1 h2 b.toNat y b (by omega) e1
    obtain ⟨b', hb', hle'⟩ := least_le hE h2 h1 c.toNat y c (by omega) hc
    rw [e1] at hb'
    obtain rfl : b = b' := by simpa using hb'
    rw [hc, show c = b by omega]
  | none =>
    cases e2 : d2 y with
    | none => rfl
    | some c =>
      obtain ⟨b, hb, -⟩ := least_le hE h2 h1 c.toNat y c (by omega) e2
      rw [e1] at hb
      cases hb
/-- Where each trip leads back in the same time: from one place to another it takes as long as back. -/
theorem least_via {α : Type} {E : α → Int → α → Prop} {s e : α} {ds de : α → Option Int} (hE : ∀ x t y, E x t y → 1 ≤ t) (hback : ∀ x t y, E x t y → E y t x) (hs : Least E s ds) (he : Least E e de) :
    ∀ (n : Nat) (y : α) (a b : Int), b ≤ n → ds y = some b → de y = some a → ∃ c, de s = some c ∧ c ≤ a + b := by
  intro n
  induction n with
  | zero =>
    intro y a b hb hy hya
    rcases hs.pred y b hy with ⟨rfl, rfl⟩ | ⟨x, t, a', hx, hed, rfl⟩
    · exact ⟨a, hya, by omega⟩
    · have := hs.low x a' hx
      have := hE _ _ _ hed
      omega
  | succ n ih =>
    intro y a b hb hy hya
    rcases hs.pred y b hy with ⟨rfl, rfl⟩ | ⟨x, t, a', hx, hed, rfl⟩
    · exact ⟨a, hya, by omega⟩
    · have := hE _ _ _ hed
      obtain ⟨c', hc', hle⟩ := he.edge y t x a hya (hback _ _ _ hed)
      obtain ⟨c, hc, hle2⟩ := ih x c' a' (by omega) hx hc'
      exact ⟨c, hc, by omega⟩
theorem least_turn {α : Type} {E : α → Int → α → Prop} {s e : α} {ds de : α → Option Int} (hE : ∀ x t y, E x t y → 1 ≤ t) (hback : ∀ x t y, E x t y → E y t x) (hs : Least E s ds) (he : Least E e de) : ds e = de s := by
  cases e1 : ds e with
  | some b =>
    obtain ⟨c, hc, hle⟩ := least_via hE hback hs he b.toNat e 0 b (by omega) e1 he.start
    obtain ⟨b', hb', hle'⟩ := least_via hE hback he hs c.toNat s 0 c (by omega) hc hs.start
    rw [e1] at hb'
    obtain rfl : b = b' := by simpa using hb'
    rw [hc, show c = b by omega]
  | none =>
    cases e2 : de s with
    | none => rfl
    | some c =>
      obtain ⟨b, hb, -⟩ := least_via hE hback he hs c.toNat s 0 c (by omega) e2 hs.start
      rw [e1] at hb
      cases hb

/-- A search under way: R holds what is settled, each trip from there told of; W what waits. -/
structure Seek {α : Type} (E : α → Int → α → Prop) (src : α) (R W : α → Option Int) : Prop where
  start : R src = some 0 ∨ (W src = some 0 ∧ ∀ x, R x = none)
  edge : ∀ x t y a, R x = some a → E x t y → ∃ b, (R y = some b ∨ W y = some b) ∧ b ≤ a + t
  pred : ∀ y b, R y = some b ∨ W y = some b → (y = src ∧ b = 0) ∨ ∃ x t a, R x = some a ∧ E x t y ∧ b = a + t
  low : ∀ y b, R y = some b ∨ W y = some b → 0 ≤ b
  far : ∀ x a y b, R x = some a → W y = some b → a ≤ b
  apart : ∀ x a, R x = some a → W x = none

/-- Before the first round. -/
theorem seek_start {α : Type} [DecidableEq α] (E : α → Int → α → Prop) (src : α) : Seek E src (fun _ => none) (fun x => if x = src then some 0 else none) where
  start := .inr ⟨by simp, fun _ => rfl⟩
  edge := fun _ _ _ _ h => by cases h
  pred := fun y b h => by
    rcases h with h | h
    · cases h
    · by_cases e : y = src
      · simp [e] at h
        exact .inl ⟨e, h.symm⟩
      · simp [e] at h
  low := fun y b h => by
    rcases h with h | h
    · cases h
    · by_cases e : y = src
      · simp [e] at h
        omega
      · simp [e] at h
  far := fun _ _ _ _ h => by cases h
  apart := fun _ _ h => by cases h
/-- When nothing waits any more, the least times are found. -/
theorem seek_end {α : Type} {E : α → Int → α → Prop} {src : α} {R W : α → Option Int} (h : Seek E src R W) (h0 : ∀ x, W x = none) : Least E src R where
  start := by
    rcases h.start with h1 | ⟨h1, -⟩
    · exact h1
    · rw [h0] at h1
      cases h1
  edge := fun x t y a hx he => by
    obtain ⟨b, hb | hb, hle⟩ := h.edge x t y a hx he
    · exact ⟨b, hb, hle⟩
    · rw [h0] at hb
      cases hb
  pred := fun y b hy => h.pred y b (.inl hy)
  low := fun y b hy => h.low y b (.inl hy)

/-- What waits behind a round that settles S at the time m: for each place that is not settled the least of what it waited for and of the trips from S. -/
structure SeekRound {α : Type} (E : α → Int → α → Prop) (R W : α → Option Int) (S : α → Prop) (m : Int) (R' W' : α → Option Int) : Prop where
  least : ∀ y b, W y = some b → m ≤ b
  took : ∀ x, S x → W x = some m
  some_ : ∃ x, S x
  settled : ∀ x, S x → R' x = some m
  kept : ∀ x, ¬ S x → R' x = R x
  gone : ∀ x a, R' x = some a → W' x = none
  relaxed : ∀ x t y, S x → E x t y → R' y = none → ∃ b, W' y = some b ∧ b ≤ m + t
  still : ∀ y b, W y = some b → R' y = none → ∃ c, W' y = some c ∧ c ≤ b
  from_ : ∀ y b, W' y = some b → (W y = some b ∧ R' y = none) ∨ ∃ x t, S x ∧ E x t y ∧ b = m + t
theorem seek_round {α : Type} {E : α → Int → α → Prop} {src : α} {R W R' W' : α → Option Int} {S : α → Prop} {m : Int} (hE : ∀ x t y, E x t y → 1 ≤ t) (h : Seek E src R W) (hr : SeekRound E R W S m R' W') : Seek E src R' W' := by
  have hup : ∀ x a, R x = some a → R' x = some a := fun x a hx => by
    have hn : ¬ S x := fun hs => by
      have h1 := hr.took x hs
      rw [h.apart x a hx] at h1
      cases h1
    rw [hr.kept x hn]
    exact hx
  have hback : ∀ x a, R' x = some a → (S x ∧ a = m) ∨ (¬ S x ∧ R x = some a) := fun x a hx => by
    by_cases hs : S x
    · have h1 := hr.settled x hs
      rw [hx] at h1
      exact .inl ⟨hs, by simpa using h1⟩
    · exact .inr ⟨hs, by rw [← hr.kept x hs]; exact hx⟩
  obtain ⟨x0, hx0⟩ := hr.some_
  have hw0 := hr.took x0 hx0
  have hm : ∀ x a, R' x = some a → a ≤ m := fun x a hx => by
    rcases hback x a hx with ⟨-, rfl⟩ | ⟨-, hx'⟩
    · exact Int.le_refl _
    · exact h.far x a x0 m hx' hw0
  have hm0 : 0 ≤ m := h.low x0 m (.inr hw0)
  have hlow : ∀ x a, R' x = some a → 0 ≤ a := fun x a hx => by
    rcases hback x a hx with ⟨-, rfl⟩ | ⟨-, hx'⟩
    · exact hm0
    · exact h.low x a (.inl hx')
  refine ⟨?_, fun x t y a hx he => ?_, fun y b hy => ?_, fun y b hy => ?_, fun x a y b hx hy => ?_, hr.gone⟩
  · rcases h.start with h1 | ⟨h1, h2⟩
    · exact .inl (hup _ _ h1)
    · left
      by_cases hs : S src
      · have h3 := hr.took src hs
        rw [h1] at h3
        obtain rfl : (0 : Int) = m := by simpa using h3
        exact hr.settled src hs
      · exfalso
        rcases h.pred x0 m (.inr hw0) with ⟨rfl, -⟩ | ⟨x, t, a, hx, -, -⟩
        · exact hs hx0
        · rw [h2] at hx
          cases hx
  · have ht := hE _ _ _ he
    rcases hback x a hx with ⟨hs, rfl⟩ | ⟨hs, hx'⟩
    · cases hy : R' y with
      | some b => exact ⟨b, .inl rfl, by have := hm y b hy; omega⟩
      | none =>
        obtain ⟨b, hb, hle⟩ := hr.relaxed x t y hs he hy
        exact ⟨b, .inr hb, hle⟩
    · obtain ⟨b, hb, hle⟩ := h.edge x t y a hx' he
      rcases hb with hb | hb
      · exact ⟨b, .inl (hup _ _ hb), hle⟩
      · cases hy : R' y with
        | some c =>
          rcases hback y c hy with ⟨hs', rfl⟩ | ⟨-, hy'⟩
          · have := hr.least y b hb
            exact ⟨_, .inl rfl, by omega⟩
          · rw [h.apart y c hy'] at hb
            cases hb
        | none =>
          obtain ⟨c, hc, hle'⟩ := hr.still y b hb hy
          exact ⟨c, .inr hc, by omega⟩
  · rcases hy with hy | hy
    · rcases hback y b hy with ⟨hs, rfl⟩ | ⟨-, hy'⟩
      · rcases h.pred y b (.inr (hr.took y hs)) with h1 | ⟨x, t, a, hx, he, h3⟩
        · exact .inl h1
        · exact .inr ⟨x, t, a, hup _ _ hx, he, h3⟩
      · rcases h.pred y b (.inl hy') with h1 | ⟨x, t, a, hx, he, h3⟩
        · exact .inl h1
        · exact .inr ⟨x, t, a, hup _ _ hx, he, h3⟩
    · rcases hr.from_ y b hy with ⟨hy', -⟩ | ⟨x, t, hs, he, rfl⟩
      · rcases h.pred y b (.inr hy') with h1 | ⟨x, t, a, hx, he, h3⟩
        · exact .inl h1
        · exact .inr ⟨x, t, a, hup _ _ hx, he, h3⟩
      · exact .inr ⟨x, t, m, hr.settled x hs, he, rfl⟩
  · rcases hy with hy | hy
    · exact hlow y b hy
    · rcases hr.from_ y b hy with ⟨hy', -⟩ | ⟨x, t, hs, he, rfl⟩
      · exact h.low y b (.inr hy')
      · have := hE _ _ _ he
        omega
  · have h1 := hm x a hx
    rcases hr.from_ y b hy with ⟨hy', -⟩ | ⟨x', t, hs, he, rfl⟩
    · have := hr.least y b hy'
      omega
    · have := hE _ _ _ he
      omega
end Go.Proofs.Ytoedcieofjcgkaa

namespace Go.Proofs.Ytoedcieofjcgkaa
open Go.RowKit

/-- What one begins with, unless it is nobody. -/
def headOf (bs : List Int) : List (List Int) := if bs.length = 0 then [] else [bs]
def groups (m : Nat) (os bs : List Int) : List (List Int) := headOf bs ++ subs m os bs
/-- A list of lists under way. -/
def Under (G : List (List Int)) (m j lo : Nat) (os bs : List Int) (w : World) (v : Value) (wx : World) : Prop :=
  ∃ (E : Option Addr) (d : Nat) (acc : List RowV), v = .slice E acc.length d ∧ rowNums acc ++ subs m (os.drop j) bs = G ∧ (E = none → acc = [] ∧ d = 0) ∧ (∀ a, E = some a → a = ⟨a.block, 0, none⟩ ∧ 0 < acc.length) ∧ Heads wx lo E d acc ∧ Below lo w wx
theorem groups_next {m : Nat} {b o : List Int} {i : Nat} (hi : i < o.length) (h : b.length < m) : subs m (o.drop i) b = groups m (o.drop (i + 1)) (b ++ [o[i]]) ++ subs m (o.drop (i + 1)) b := by
  rw [subs_next hi h, groups, headOf, if_neg (by simp)]
  rfl

theorem holds_as {w : World} {A : Option Addr} {xs ys : List Value} (h : Holds w A xs) (e : xs = ys) : Holds w A ys := e ▸ h
theorem one_kept {w w' : World} {v : Value} {t : TypeId} (hb : Below (w.alloc (.cells #[v] t)).heap.size (w.alloc (.cells #[v] t)) w') : ∀ j u, [v][j]? = some u → w'.cell? ((⟨w.heap.size, 0, none⟩ : Addr).add j) = some u := fun j u hu => by
  rw [Addr.add_lit]
  refine (hb.cell (p := ⟨w.heap.size, 0 + j, none⟩) (by simp)).trans ?_
  have := cell_one_new w v t j u hu
  rwa [Addr.add_lit] at this
theorem subs_some {A : Option Addr} {c : Nat} {rs : List RowV} {G : List (List Int)} (hn : A = none → rs = [] ∧ c = 0) (hs : ∀ a, A = some a → a = ⟨a.block, 0, none⟩ ∧ 0 < rs.length) (hr : rowNums rs = G) (hp : 0 < G.length) : ∃ b, A = some ⟨b, 0, none⟩ ∧ 0 < rs.length := by
  cases A with
  | none =>
    obtain ⟨rfl, -⟩ := hn rfl
    rw [← hr] at hp
    simp [rowNums] at hp
  | some a =>
    obtain ⟨h1, h2⟩ := hs a rfl
    exact ⟨a.block, by rw [← h1], h2⟩
theorem rows_le {n b : Nat} {rs : List RowV} {G : List (List Int)} (h : n + G.length ≤ b) (hr : rowNums rs = G) : n + rs.length ≤ b := by
  rw [← hr, rowNums_len] at h
  exact h
theorem rows_len1 (rs : List RowV) : (rowVals rs).length = rs.length * 1 := by rw [rowVals_len, Nat.mul_one]
theorem heads_news {w : World} {lo b c : Nat} {rs : List RowV} (h : Heads w lo (some ⟨b, 0, none⟩) c rs) : ∀ j u, (rowVals rs)[j]? = some u → w.cell? ((⟨b, 0, none⟩ : Addr).add j) = some u := fun j u hu => by
  rw [Addr.add_lit]
  rcases holds_of_own h.1 with h | ⟨b', o, h, -, hcell⟩
  · rw [h] at hu; simp at hu
  · obtain ⟨rfl, rfl⟩ : b = b' ∧ 0 = o := by simpa using h
    exact hcell j u hu

set_option maxHeartbeats 6400000 in
set_option maxRecDepth 100000 in
theorem paGroups_any (m : Nat) (hm : m ≤ 8) : ∀ (g : Nat) (A B : Option Addr) (k z n c f : Nat) (bs os : List Int) (w : World), n - f < g → n ≤ 8 → f ≤ n → Holds w A (nums bs) → Holds w B (nums os) → bs.length = k → os.length = n → k ≤ m → (A = none → k = 0 ∧ z = 0) →
    Calls Try.prog 117 #[.slice B n c, .slice A k z, .int .i64 f, .int .i64 m] w (SubsPost (groups m (os.drop f) bs) w) := by
  intro g
  induction g with
  | zero => intro A B k z n c f bs os w hg; omega
  | succ g ih =>
    intro A B k z n c f bs os w hg hn8 hfn hA hB hk hn hkm hnil
    obtain ⟨i0, hi, hz0, hz1, hz2⟩ := info_parts info_int
    have HI := Lib.hid hi
    have HZ0 := Lib.hid hz0
    have HZ1 := Lib.hid hz1
    have HZ2 := Lib.hid hz2
    obtain ⟨i1, ri, rz0, rz1, rz2⟩ := info_parts info_row
    have RI := Lib.hid ri
    have RZ0 := Lib.hid rz0
    have RZ1 := Lib.hid rz1
    have RZ2 := Lib.hid rz2
    have HK := Lib.hid hk
    have HN := Lib.hid hn
    have HNIL := Lib.hid hnil
    have HIH := Lib.hid ih
    have hk8 : k ≤ 8 := by omega
    generalize hG : groups m (os.drop f) bs = G
    have HG := Lib.hid hG
    clear hi hz0 hz1 hz2 ri rz0 rz1 rz2 hk hn hnil ih hG
    go_enter Try.func117, Try.ntmps117
    go_upto_if 13 with fail
    go_cut [9] from 13 to 18 (fun s9 wx => Under G m f w.heap.size os bs w s9 wx)
    case first =>
      by_cases hk0 : k = 0
      · have hd : decide (0 < k) = false := by simp [hk0]
        have hd' : ¬ 0 < k := by omega
        have HB0 : Hid (bs = []) := List.length_eq_zero_iff.1 (by have := HK.out; omega)
        clear hk0
        go_wp2_with fail
        go_meet
        refine ⟨none, 0, [], rfl, ?_, fun _ => ⟨rfl, rfl⟩, fun a h => (by cases h), Heads.nil _ _, Below.refl _ _⟩
        rw [← HG.out, groups, headOf, HB0.out]
        rfl
      · have hd : decide (0 < k) = true := by simp; omega
        have hd' : 0 < k := by omega
        have HB0 : Hid (bs.length ≠ 0) := by show _ ≠ _; have := HK.out; omega
        clear hk0
        go_wp2_with fail
        refine (l1Own_any A k z bs _ hA HK.out (by omega) (fun h => (HNIL.out h).2)).mono ?_
        rintro e w1 ⟨A1, c1, rfl, hown1, hb1⟩
        rw [HK.out] at hown1 ⊢
        have hs1 : w.heap.size ≤ w1.heap.size := hb1.size
        have HO1 := Lib.hid hown1
        have HB1 := Lib.hid hb1
        have HZ := Lib.hid (show w.heap.size ≤ (w1.alloc (.cells #[.slice A1 k c1] 33)).heap.size by simp; omega)
        clear hown1 hb1
        go_wp2_with (at_builtin; refine wpList_append_lies _ rfl (.tmp 14) (.tmp 17) 24 rfl w.heap.size 33 i1 (.slice none 0 0) 1 24 Try.underlying24 RI.out RZ0.out RZ1.out RZ2.out rfl (by decide) (.slice none 0 0) 0 [] rfl (World.ownsRow_nil _ _ _ _) ⟨w1.heap.size, 0, none⟩ 1 1 [.slice A1 k c1] rfl rfl (cell_one_new _ _ _) (by simp [Value.oneCell']) (by decide) (by decide) (by decide) HZ.out (w1.heap.size + 1) (by simp) ?_; intro g3 c3 w3 hown3 hg3 hat3 hlt3)
        have hF := own_fresh0' HO1.out
        have hH3 := Heads.push (r := ⟨A1, k, c1, bs⟩) (Heads.nil w w.heap.size) (Nat.le_refl _) HB1.out hF HK.out (by show k ≤ _; omega) hown3 hg3 hat3
        have hb3 : Below w.heap.size w w3 := (HB1.out.alloc hs1 (.cells #[.slice A1 k c1] 33)).grown hg3 HZ.out (fun kk e => by simp [Value.ownBlock] at e)
        go_meet
        refine ⟨some ⟨g3, 0, none⟩, c3, [⟨A1, k, c1, bs⟩], rfl, ?_, fun h => (by cases h), fun a h => by obtain rfl := Option.some.inj h; exact ⟨rfl, by simp⟩, hH3, hb3⟩
        rw [← HG.out, groups, headOf, if_neg HB0.out]
        rfl
    case rest =>
      obtain ⟨E0, d0, acc0, rfl, hac0, hn0, hs0, hh0, hb0⟩ := hcut
      have HAC0 := Lib.hid hac0
      have HN0 := Lib.hid hn0
      have HS0 := Lib.hid hs0
      have HH0 := Lib.hid hh0
      have HB0 := Lib.hid hb0
      clear hac0 hn0 hs0 hh0 hb0
      by_cases hkm2 : k = m
      · subst hkm2
        have HR : Hid (rowNums acc0 = G) := by show _ = _; rw [← HAC0.out, subs_full (by have := HK.out; omega)]; simp
        go_wp2
        go_ret
        exact ⟨E0, d0, acc0, rfl, HR.out, HN0.out, HS0.out, HH0.out, HB0.out⟩
      · have hd1 : decide (k = m) = false := by simp [hkm2]
        have hne : ((k : Int) == (m : Int)) = false := by simp; omega
        have hkb : bs.length < m := by have := HK.out; omega
        have HKB := Lib.hid hkb
        have HKM := Lib.hid (show k + 1 ≤ m by omega)
        clear hkm2 hkb
        go_wp2_with fail
        go_loopw [9, 10] (fun v i wr => ∃ j : Nat, f ≤ j ∧ j ≤ n ∧ i = .int .i64 j ∧ Under G m j w.heap.size os bs w v wr) (fun _ i _ => n - (intOf i).toNat)
        case atStart => exact ⟨f, Nat.le_refl _, hfn, rfl, ⟨E0, d0, acc0, rfl, HAC0.out, HN0.out, HS0.out, HH0.out, HB0.out⟩⟩
        case round =>
          obtain ⟨j, hfj, hj, rfl, E, d, acc, rfl, hac, hEn, hEs, hh, hb⟩ := hrel
          clear HAC0 HN0 HS0 HH0 HB0
          by_cases hjn : j < n
          · have hjl : j < os.length := by have := HN.out; omega
            obtain ⟨b0, o0, rfl, hbl0, hcell0⟩ := hB.look (k := j) (by rw [nums_len]; exact hjl)
            simp only [nums, List.getElem_map] at hcell0
            have HNX : Hid (rowNums acc ++ groups m (os.drop (j + 1)) (bs ++ [os[j]]) ++ subs m (os.drop (j + 1)) bs = G) := by show _ = _; rw [List.append_assoc, ← groups_next hjl HKB.out]; exact hac
            have HAL : Hid (acc.length + (groups m (os.drop (j + 1)) (bs ++ [os[j]])).length ≤ 256) := by
              have h1 := congrArg List.length HNX.out
              have h2 := congrArg List.length HG.out
              have h3 := subs_small (m := m) (o := os.drop f) (b := bs) (by have := HN.out; simp; omega)
              have h4 : (headOf bs).length ≤ 1 := by unfold headOf; split <;> simp
              simp only [List.length_append, rowNums_len, groups] at h1 h2
              show _ ≤ _
              simp only [List.length_append, groups]
              omega
            have HPOS : Hid (0 < (groups m (os.drop (j + 1)) (bs ++ [os[j]])).length) := by show _ < _; simp [groups, headOf]
            have HH := Lib.hid hh
            have HB := Lib.hid hb
            have hbs : w.heap.size ≤ wr.heap.size := hb.size
            have hA1 := hA.below hb
            have hcell : wr.cell? ⟨b0, o0 + j, none⟩ = some (.int .i64 os[j]) := (hb.cell (p := ⟨b0, o0 + j, none⟩) hbl0).trans hcell0
            have HBL0 := Lib.hid hbl0
            have HBW := Lib.hid hB
            have hdl : (os.drop (j + 1)).length = n - (j + 1) := by have := HN.out; simp; omega
            generalize hx : os[j] = x at hcell hcell0 HNX HAL HPOS
            have hFl : (bs ++ [x]).length = k + 1 := by have := HK.out; simp; omega
            have HFL := Lib.hid hFl
            have HDL := Lib.hid hdl
            have HM1 := Lib.hid (show k + 1 ≤ maxLen by unfold maxLen; omega)
            have HY1 := Lib.hid (show (k + 1) * 8 ≤ 140737488355328 by omega)
            have hwj : IntKind.i64.wrap ((j : Int) + 1) = (j : Int) + 1 := IntWalk.i64_in _ (by omega)
            have hcast : ((j : Int) + 1) = ((j + 1 : Nat) : Int) := by omega
            have HCAST := Lib.hid hcast
            have hnx : nums bs ++ [Value.int .i64 x] = nums (bs ++ [x]) := by simp [nums]
            have HNM := Lib.hid hnx
            have hcellw := hcell0
            clear hac hEn hEs hh hb hx hdl hFl hcast hnx hcell0 hbl0
            go_upto_block 1 with fail
            go_cut [9] from 31 to 45 (fun s9 wx => Under G m (j + 1) w.heap.size os bs w s9 wx)
            case first =>
              go_wp2_with fail
              go_region_held3 (fun w' => w'.cell? ⟨b0, o0 + j, none⟩ = some (.int .i64 x)) (go_keep)
                (first | (go_at_call 106; refine (l1Own_any A k z bs _ (by with_reducible exact hA1.drew) HK.out (by omega) (fun h => (HNIL.out h).2)).mono ?_; rintro e w1 ⟨A1, c1, rfl, hown1, hb1⟩; rw [HK.out] at hown1 ⊢; have hc1 : Below wr.heap.size wr w1 := (by first | exact below_then (Below.refl wr.heap.size wr).drew hb1 (Nat.le_refl _)); have hs1 : wr.heap.size ≤ w1.heap.size := hc1.size; have hcx := (hc1.cell (p := ⟨b0, o0 + j, none⟩) (Nat.lt_of_lt_of_le HBL0.out hbs)).trans hcell; have HO1 := Lib.hid (hown1.alloc (.cells #[.int .i64 x] 3)); have HCB1 := Lib.hid (hc1.alloc hs1 (.cells #[.int .i64 x] 3)); have HZ1' := Lib.hid (show wr.heap.size ≤ (w1.alloc (.cells #[.int .i64 x] 3)).heap.size from (by simp; omega)); clear hown1 hb1 hc1) | (go_at_call 106; refine (l1Own_any A k z bs _ (by with_reducible exact (hA1.alloc _).drew) HK.out (by omega) (fun h => (HNIL.out h).2)).mono ?_; rintro e w1 ⟨A1, c1, rfl, hown1, hb1⟩; rw [HK.out] at hown1 ⊢; have hb1' : Below (wr.alloc (.cells #[.int .i64 x] 3)).heap.size (wr.alloc (.cells #[.int .i64 x] 3)) w1 := below_then (Below.refl _ _).drew hb1 (Nat.le_refl _); have hc1 : Below wr.heap.size wr w1 := below_then ((Below.refl wr.heap.size wr).alloc (Nat.le_refl _) (.cells #[.int .i64 x] 3)) hb1' (by simp); have hs1 : wr.heap.size ≤ w1.heap.size := hc1.size; have hcx := (hc1.cell (p := ⟨b0, o0 + j, none⟩) (Nat.lt_of_lt_of_le HBL0.out hbs)).trans hcell; have HOB := Lib.hid (own_lower (base' := wr.heap.size) hown1 (show wr.heap.size ≤ (wr.alloc (.cells #[.int .i64 x] 3)).heap.size from (by simp))); have HCB := Lib.hid hc1; have HNB := Lib.hid (one_kept hb1'); clear hb1'; clear hown1 hb1 hc1) | (refine step_append_lies _ rfl (.tmp 34) (.tmp 39) 33 rfl wr.heap.size 3 i0 (.int .i64 0) 1 8 Try.underlying33 HI.out HZ0.out HZ1.out HZ2.out rfl (by decide) (.slice A1 k c1) k (nums bs) (by simp [Act.eval]) HO1.out ⟨w1.heap.size, 0, none⟩ 1 1 [.int .i64 x] (by simp [Act.eval]) rfl (cell_one_new _ _ _) (by simp [Value.oneCell']) (by decide) HM1.out HY1.out HZ1'.out (w1.heap.size + 1) (by simp) ?_; intro g2 c2 w2 hown2 hg2 hat2 hlt2; have hc2 : Below wr.heap.size wr w2 := HCB1.out.grown hg2 HZ1'.out (fun kk e => (HO1.out.lt kk e).1); have hs2 : wr.heap.size ≤ w2.heap.size := hc2.size; have hcx2 := (hc2.cell (p := ⟨b0, o0 + j, none⟩) (Nat.lt_of_lt_of_le HBL0.out hbs)).trans hcell; have HL2 : Hid (Holds w2 (some ⟨g2, 0, none⟩) (nums (bs ++ [x]))) := holds_as (own_fresh0' hown2).holds HNM.out; have HW2 := Lib.hid ((HBW.out.below HB.out).below hc2); have HC2 := Lib.hid hc2; clear hown2 hg2 hat2 hc2) | (refine step_append_lies _ rfl (.tmp 34) (.tmp 39) 33 rfl wr.heap.size 3 i0 (.int .i64 0) 1 8 Try.underlying33 HI.out HZ0.out HZ1.out HZ2.out rfl (by decide) (.slice A1 k c1) k (nums bs) (by simp [Act.eval]) HOB.out ⟨wr.heap.size, 0, none⟩ 1 1 [.int .i64 x] (by simp [Act.eval]) rfl HNB.out (by simp [Value.oneCell']) (by decide) HM1.out HY1.out hs1 w1.heap.size rfl ?_; intro g2 c2 w2 hown2 hg2 hat2 hlt2; have hc2 : Below wr.heap.size wr w2 := HCB.out.grown hg2 hs1 (fun kk e => (HOB.out.lt kk e).1); have hs2 : wr.heap.size ≤ w2.heap.size := hc2.size; have hcx2 := (hc2.cell (p := ⟨b0, o0 + j, none⟩) (Nat.lt_of_lt_of_le HBL0.out hbs)).trans hcell; have HL2 : Hid (Holds w2 (some ⟨g2, 0, none⟩) (nums (bs ++ [x]))) := holds_as (own_fresh0' hown2).holds HNM.out; have HW2 := Lib.hid ((HBW.out.below HB.out).below hc2); have HC2 := Lib.hid hc2; clear hown2 hg2 hat2 hc2) | (go_at_call 117; have hcall := HIH.out (some ⟨g2, 0, none⟩) (some ⟨b0, o0, none⟩) (k + 1) c2 n c (j + 1) (bs ++ [x]) os w2 (by omega) hn8 (by omega) HL2.out HW2.out HFL.out HN.out HKM.out (fun h => (by cases h)); rw [← HCAST.out] at hcall; refine hcall.mono ?_; clear hcall; rintro e w4 ⟨A4, c4, rs4, rfl, hr4, hn4, hs4, hh4, hb4⟩; obtain ⟨b4, rfl, hp4⟩ := subs_some hn4 hs4 hr4 HPOS.out; have hc4 : Below wr.heap.size wr w4 := below_then HC2.out hb4 hs2; have hcx4 := (hc4.cell (p := ⟨b0, o0 + j, none⟩) (Nat.lt_of_lt_of_le HBL0.out hbs)).trans hcell; have hs4' : wr.heap.size ≤ w4.heap.size := hc4.size; have HR4 := Lib.hid hr4; have HH4 := Lib.hid (hh4.raise hs2); have HC4 := Lib.hid hc4; have HOA := Lib.hid (HH.out.below hc4).1; have HP4 := Lib.hid hp4; have HL4 : Hid (acc.length + rs4.length ≤ 256) := rows_le HAL.out hr4; have HM4 := Lib.hid (show acc.length + rs4.length ≤ maxLen from (by have := HL4.out; unfold maxLen; omega)); have HY4 := Lib.hid (show (acc.length + rs4.length) * 24 ≤ 140737488355328 from (by have := HL4.out; omega)); have HZ4 := Lib.hid (show w.heap.size ≤ w4.heap.size from (by omega)); clear hr4 hn4 hs4 hh4 hb4 hc4 hp4) | (refine step_append_lies _ rfl (.tmp 31) (.tmp 44) 24 rfl w.heap.size 33 i1 (.slice none 0 0) 1 24 Try.underlying24 RI.out RZ0.out RZ1.out RZ2.out rfl (by decide) (.slice E acc.length d) acc.length (rowVals acc) (by simp [Act.eval]) HOA.out ⟨b4, 0, none⟩ rs4.length c4 (rowVals rs4) (by simp [Act.eval]) (rows_len1 rs4) (heads_news HH4.out) (rowVals_one rs4) HP4.out HM4.out HY4.out HZ4.out w4.heap.size rfl ?_; intro g5 c5 w5 hown5 hg5 hat5 hlt5; have HJ := Lib.hid (Heads.join HH.out hbs HC4.out HH4.out hown5 hg5 hat5); have HB5 := Lib.hid ((below_then HB.out HC4.out hbs).grown hg5 HZ4.out (fun kk e => (HOA.out.lt kk e).1)); have hcx5 : w5.cell? ⟨b0, o0 + j, none⟩ = some (.int .i64 x) := (HB5.out.cell (p := ⟨b0, o0 + j, none⟩) HBL0.out).trans hcellw; clear hown5 hg5 hat5 hlt5) | fail)
              all_goals (go_wp2_with fail; go_meet)
              all_goals exact ⟨some ⟨g5, 0, none⟩, c5, acc ++ rs4, by rw [List.length_append], by rw [show rowNums (acc ++ rs4) = rowNums acc ++ rowNums rs4 by simp [rowNums], HR4.out]; exact HNX.out, fun h => (by cases h), fun a h => by obtain rfl := Option.some.inj h; exact ⟨rfl, by rw [List.length_append]; have := HP4.out; omega⟩, HJ.out, HB5.out⟩
            case rest =>
              obtain ⟨E', d', acc', rfl, r1, r2, r3, r4, r5⟩ := hcut
              have HR1 := Lib.hid r1
              have HR2 := Lib.hid r2
              have HR3 := Lib.hid r3
              have HR4 := Lib.hid r4
              have HR5 := Lib.hid r5
              clear r1 r2 r3 r4 r5
              go_wp2
              go_roundw
              case rel => exact ⟨j + 1, by omega, by omega, by go_num, E', d', acc', rfl, HR1.out, HR2.out, HR3.out, HR4.out, HR5.out⟩
              case measure => simp [intOf]; omega
          · obtain rfl : j = n := by omega
            have HR : Hid (rowNums acc = G) := by show _ = _; rw [← hac, List.drop_eq_nil_of_le (by have := HN.out; omega)]; simp [subs]
            have HH := Lib.hid hh
            have HEN := Lib.hid hEn
            have HES := Lib.hid hEs
            clear hac hh hEn hEs
            go_wp2
            go_ret
            exact ⟨E, d, acc, rfl, HR.out, HEN.out, HES.out, HH.out, hb⟩
end Go.Proofs.Ytoedcieofjcgkaa

namespace Go.Proofs.Ytoedcieofjcgkaa
open Go.RowKit

/-- What a call hands back that makes a list of lists and tells whether it did. -/
def BackPost (ls : List (List Int)) (ok : Bool) (w : World) (e : Ending) (w' : World) : Prop :=
  ∃ (A : Option Addr) (n c : Nat) (rs : List RowV), e = .returned (.tuple #[.slice A n c, .bool ok]) ∧ rowNums rs = ls ∧ rs.length = n ∧ FreeGrid w' w.heap.size w'.heap.size A rs ∧ Below w.heap.size w w'
theorem BackPost.no {w w' : World} (h : Below w.heap.size w w') : BackPost [] false w (.returned (.tuple #[.slice none 0 0, .bool false])) w' :=
  ⟨none, 0, 0, [], rfl, rfl, rfl, (Heads.nil w' w.heap.size).free, h⟩
theorem part_lens {w : World} {A : Option Addr} {rs : List RowV} (h : Grid w A rs) : part rs rs.length = ((rowNums rs).map List.length).sum := by
  rw [part_sum]
  have : ∀ ts : List RowV, (∀ r ∈ ts, r.xs.length = r.n) → ts.map RowV.n = (rowNums ts).map List.length := by
    intro ts ht
    simp only [rowNums, List.map_map]
    exact List.map_congr_left fun r hr => (ht r hr).symm
  rw [this rs fun r hr => (h.2 r hr).2.1]
theorem sum_lens {ls : List (List Int)} {k : Nat} (h : ∀ l ∈ ls, l.length ≤ k) : (ls.map List.length).sum ≤ k * ls.length := by
  induction ls with
  | nil => simp
  | cons l ls ih =>
    have h1 := h l (by simp)
    have h2 := ih fun x hx => h x (List.mem_cons_of_mem _ hx)
    rw [List.map_cons, List.sum_cons, List.length_cons, Nat.mul_succ]
    omega
end Go.Proofs.Ytoedcieofjcgkaa

namespace Go.Proofs.Ytoedcieofjcgkaa
open Go.RowKit

/-- All trips in a state. -/
def tripsIn (n : Nat) (s : Int) (bs : List Bool) (t : Bool) : List (List Int) := subs s.toNat (hereTo bs t n) []

end Go.Proofs.Ytoedcieofjcgkaa

namespace Go.Proofs.Ytoedcieofjcgkaa
open Go.RowKit

theorem here_range (bs : List Bool) (t : Bool) (n : Nat) : hereTo bs t n = ((List.range n).map Int.ofNat).filter (fun k => bs.getD k.toNat false == t) := by
  rw [hereTo, List.filter_map]
  rfl
/-- The trips in a state are those of all lists of people whose people are where the torch is. -/
theorem trips_mem (n : Nat) (s : Int) (bs : List Bool) (t : Bool) (l : List Int) :
    l ∈ tripsIn n s bs t ↔ l ∈ subs s.toNat ((List.range n).map Int.ofNat) [] ∧ ∀ k ∈ l, bs.getD k.toNat false = t := by
  rw [tripsIn, subs_mem, subs_mem]
  constructor
  · rintro ⟨c, hc, hne, hs, hl⟩
    rw [List.nil_append] at hc
    subst hc
    rw [here_range] at hs
    refine ⟨⟨l, by simp, hne, hs.trans List.filter_sublist, hl⟩, fun k hk => ?_⟩
    have := hs.subset hk
    simpa using (List.mem_filter.1 this).2
  · rintro ⟨⟨c, hc, hne, hs, hl⟩, hall⟩
    rw [List.nil_append] at hc
    subst hc
    refine ⟨l, by simp, hne, ?_, hl⟩
    rw [here_range]
    have h := hs.filter (fun k => bs.getD k.toNat false == t)
    rwa [List.filter_eq_self.2 (fun k hk => by simpa using hall k hk)] at h
theorem trips_in (n : Nat) (s : Int) (bs : List Bool) (t : Bool) {l : List Int} (h : l ∈ tripsIn n s bs t) : l ≠ [] ∧ ∀ k ∈ l, 0 ≤ k ∧ k < n := by
  rw [trips_mem, subs_mem] at h
  obtain ⟨⟨c, hc, hne, hs, -⟩, -⟩ := h
  rw [List.nil_append] at hc
  subst hc
  refine ⟨hne, fun k hk => ?_⟩
  have := hs.subset hk
  simp only [List.mem_map, List.mem_range] at this
  obtain ⟨j, hj, rfl⟩ := this
  exact ⟨Int.natCast_nonneg j, by show (j : Int) < n; omega⟩
theorem flipped_twice (bs : List Bool) (l : List Int) : flipped (flipped bs l) l = bs := by
  refine List.ext_getElem? fun i => ?_
  by_cases h : i < bs.length
  · rw [flipped_at _ l (by rw [flipped_len]; exact h), flipped_get bs l h, List.getElem?_eq_getElem h]
    have : bs.getD i false = bs[i] := by simp [h]
    rw [this]
    cases bs[i] <;> cases has l i <;> rfl
  · rw [List.getElem?_eq_none (by rw [flipped_len, flipped_len]; omega), List.getElem?_eq_none (by omega)]
/-- A trip of a party of n from a place to a place, with its time. -/
def Leg (xs : List Int) (n : Nat) (s : Int) (a : List Bool × Bool) (t : Int) (b : List Bool × Bool) : Prop :=
  a.1.length = n ∧ ∃ l, l ∈ tripsIn n s a.1 a.2 ∧ t = slowOf xs l ∧ b = (flipped a.1 l, !a.2)
theorem leg_back {xs : List Int} {n : Nat} {s t : Int} {a b : List Bool × Bool} (h : Leg xs n s a t b) : Leg xs n s b t a := by
  obtain ⟨hn, l, hl, rfl, rfl⟩ := h
  obtain ⟨bs, o⟩ := a
  dsimp only at hn hl
  refine ⟨by rw [flipped_len]; exact hn, l, ?_, rfl, by rw [flipped_twice, Bool.not_not]⟩
  have hin := (trips_in n s bs o hl).2
  rw [trips_mem] at hl ⊢
  refine ⟨hl.1, fun k hk => ?_⟩
  have hb := hin k hk
  show (flipped bs l).getD k.toNat false = !o
  rw [flipped_get bs l (by omega), hl.2 k hk]
  have : has l k.toNat = true := has_iff.2 (by rw [Int.toNat_of_nonneg hb.1]; exact hk)
  rw [this]
  cases o <;> rfl
theorem foldl_max (f : List Int) (a : Int) : a ≤ f.foldl max a ∧ ∀ x ∈ f, x ≤ f.foldl max a := by
  induction f generalizing a with
  | nil => exact ⟨Int.le_refl _, fun _ h => by cases h⟩
  | cons y f ih =>
    obtain ⟨h1, h2⟩ := ih (max a y)
    refine ⟨by have := h1; simp only [List.foldl_cons]; omega, fun x hx => ?_⟩
    rcases List.mem_cons.1 hx with rfl | hx
    · simp only [List.foldl_cons]; omega
    · exact h2 x hx
theorem leg_time {xs : List Int} {n : Nat} {s t : Int} {a b : List Bool × Bool} (hx : xs.length = n) (hxs : ∀ y ∈ xs, 1 ≤ y) (h : Leg xs n s a t b) : 1 ≤ t := by
  obtain ⟨-, l, hl, rfl, -⟩ := h
  obtain ⟨hne, hin⟩ := trips_in n s a.1 a.2 hl
  obtain ⟨k, r, rfl⟩ := List.exists_cons_of_ne_nil hne
  have hk := hin k (by simp)
  have hkx : k.toNat < xs.length := by omega
  have h1 := hxs _ (List.getElem_mem hkx)
  have h2 := (foldl_max ((k :: r).map fun k => xs.getD k.toNat 0) 0).2 (xs.getD k.toNat 0) (by simp)
  have h3 : xs.getD k.toNat 0 = xs[k.toNat] := by simp [hkx]
  rw [h3] at h2
  exact Int.le_trans h1 h2
/-- From one state to another it takes as long as back, however each is searched for. -/
theorem leg_turn {xs : List Int} {n : Nat} {s : Int} {a b : List Bool × Bool} {da db : List Bool × Bool → Option Int} (hx : xs.length = n) (hxs : ∀ y ∈ xs, 1 ≤ y) (ha : Least (Leg xs n s) a da) (hb : Least (Leg xs n s) b db) : da b = db a :=
  least_turn (fun _ _ _ h => leg_time hx hxs h) (fun _ _ _ h => leg_back h) ha hb
end Go.Proofs.Ytoedcieofjcgkaa

namespace Go.Proofs.Ytoedcieofjcgkaa
open Go.RowKit

theorem size_st : (Try.prog.info? 48).map (·.size) = some 2 := by kernel_rfl
theorem Fresh.only {w w' : World} {lo hi b : Nat} {ty : TypeId} {A : Option Addr} {xs : List Value} (hf : Fresh w lo hi ty A xs) (o : Only b w w') (hb : b < lo) : Fresh w' lo hi ty A xs := by
  rcases hf with rfl | ⟨g, cs, hA, h1, h2, hw, h3, h4⟩
  · exact .inl rfl
  · exact .inr ⟨g, cs, hA, h1, h2, o.whole hw (by omega), h3, h4⟩
/-- Is the list a row in a calm state? -/
noncomputable def boatOk (a b : Int) (bs : List Bool) (t : Bool) (l : List Int) : Bool := calmIn a b bs t && tripM a.toNat b (codeOf bs t) l
noncomputable def boatBits (a b : Int) (bs : List Bool) (t : Bool) (l : List Int) : List Bool := if boatOk a b bs t l then flipped bs l else []
noncomputable def boatTorch (a b : Int) (bs : List Bool) (t : Bool) (l : List Int) : Bool := boatOk a b bs t l && !t
theorem boat_no {a b : Int} {bs : List Bool} {t : Bool} {l : List Int} (h : boatOk a b bs t l = false) : boatBits a b bs t l = [] ∧ boatTorch a b bs t l = false ∧ boatOk a b bs t l = false := by simp [boatBits, boatTorch, h]
theorem boat_yes {a b : Int} {bs : List Bool} {t : Bool} {l : List Int} (h : boatOk a b bs t l = true) : boatBits a b bs t l = flipped bs l ∧ boatTorch a b bs t l = !t ∧ boatOk a b bs t l = true := by simp [boatBits, boatTorch, h]
theorem bits_back {n : Nat} {cs : List Bool} {u : Bool} (h : cs.length = n) : bitsOf (codeOf cs u / 2) n = cs := by
  refine List.ext_getElem (by rw [bitsOf_len, h]) fun i h1 h2 => ?_
  have hb := bit_maskUp (fun i => cs.getD i false) cs.length i
  rw [← code_half cs u] at hb
  simp only [bitsOf, List.getElem_map, List.getElem_range]
  rw [hb]
  simp [h2]
theorem torch_back (cs : List Bool) (u : Bool) : bitAt (codeOf cs u) 0 = u := by rw [bit_code]; rfl

end Go.Proofs.Ytoedcieofjcgkaa

namespace Go.Proofs.Ytoedcieofjcgkaa
open Go.RowKit

theorem rows_of_same {k q x : Nat} (h : (!quiet k (bitAt (x / 2)) || rowsSame k q x) = true) (hq : quiet k (bitAt (x / 2)) = true) : (rowsM k q x (2 ^ (2 * k) - 1) 1 []).map listOf = rowsIn k q (bitsOf (x / 2) (2 * k)) (bitAt x 0) := by
  rw [hq, Bool.not_true, Bool.false_or] at h
  exact eq_of_beq h
theorem rows_list {k q : Nat} {bs : List Bool} {t : Bool} (hk1 : 1 ≤ k) (hk : k ≤ 4) (hq1 : 1 ≤ q) (hq4 : q ≤ 4) (hl : bs.length = 2 * k) (hq : quiet k (bitAt (codeOf bs t / 2)) = true) : (rowsM k q (codeOf bs t) (2 ^ (2 * k) - 1) 1 []).map listOf = rowsIn k q bs t := by
  have hx := code_lt bs t
  rw [hl] at hx
  have key : (rowsM k q (codeOf bs t) (2 ^ (2 * k) - 1) 1 []).map listOf = rowsIn k q (bitsOf (codeOf bs t / 2) (2 * k)) (bitAt (codeOf bs t) 0) := by
    obtain ⟨p, rfl⟩ : ∃ p, q = p + 1 := ⟨q - 1, by omega⟩
    refine rows_of_same ?_ hq
    generalize codeOf bs t = x at hx
    obtain rfl | rfl | rfl | rfl : k = 1 ∨ k = 2 ∨ k = 3 ∨ k = 4 := by omega
    · exact List.all_eq_true.1 (List.all_eq_true.1 rows_same1 p (List.mem_range.2 (by omega))) x (List.mem_range.2 (by omega))
    · exact List.all_eq_true.1 (List.all_eq_true.1 rows_same2 p (List.mem_range.2 (by omega))) x (List.mem_range.2 (by omega))
    · exact List.all_eq_true.1 (List.all_eq_true.1 rows_same3 p (List.mem_range.2 (by omega))) x (List.mem_range.2 (by omega))
    · exact List.all_eq_true.1 (List.all_eq_true.1 rows_same4 p (List.mem_range.2 (by omega))) x (List.mem_range.2 (by omega))
  rw [key, bits_back hl, torch_back]
theorem rowsM_mem (k : Nat) (q : Int) (x : Nat) : ∀ (n g : Nat) (out : List Nat), (∀ y ∈ out, y < 256) → g + n ≤ 256 → ∀ y ∈ rowsM k q x n g out, y < 256
  | 0, _, _, h, _ => h
  | n + 1, g, out, h, hg => rowsM_mem k q x n (g + 1) _ (by split; { exact insG_mem h (by omega) }; { exact h }) (by omega)
theorem rowsM_len (k : Nat) (q : Int) (x : Nat) : ∀ (n g : Nat) (out : List Nat), (rowsM k q x n g out).length ≤ out.length + n
  | 0, _, out => Nat.le_refl _
  | n + 1, g, out => by
    rw [rowsM_next]
    refine Nat.le_trans (rowsM_len k q x n (g + 1) _) ?_
    split
    · rw [insG_len]; omega
    · omega
/-- The rows of a state: none where it isn't calm. -/
noncomputable def rowsLs (a b : Int) (bs : List Bool) (t : Bool) : List (List Int) := if calmIn a b bs t then rowsIn a.toNat b.toNat bs t else []
theorem rowsLs_le {a b : Int} {bs : List Bool} {t : Bool} : (rowsLs a b bs t).length ≤ 1048576 ∧ ((rowsLs a b bs t).map List.length).sum ≤ 1048576 := by
  cases h : calmIn a b bs t
  · simp [rowsLs, h]
  · have hp : isPlace a b bs t = true := by
      cases hp : isPlace a b bs t
      · rw [calmIn_no hp] at h; cases h
      · rfl
    obtain ⟨k, rfl, hk1, hk, hb1, hb4, -, -, hl⟩ := place_co hp
    obtain ⟨q, rfl⟩ : ∃ q : Nat, b = q := ⟨b.toNat, by omega⟩
    have hq : quiet k (bitAt (codeOf bs t / 2)) = true := by rw [quiet_code (c := k) (t := t) hl, ← calmIn_yes hp]; exact h
    have hr := rows_list (q := q) hk1 hk (by omega) (by omega) hl hq
    rw [show rowsLs k q bs t = rowsIn k q bs t by simp [rowsLs, h], ← hr]
    have h1 := rowsM_len k q (codeOf bs t) (2 ^ (2 * k) - 1) 1 []
    have hp4 := pow_c hk
    generalize rowsM k q (codeOf bs t) (2 ^ (2 * k) - 1) 1 [] = R at h1
    have h2 := sum_lens (k := 8) (ls := R.map listOf) fun l hl => by obtain ⟨g, -, rfl⟩ := List.mem_map.1 hl; exact listOf_le g
    rw [List.length_map] at h2 ⊢
    simp only [List.length_nil] at h1
    omega

end Go.Proofs.Ytoedcieofjcgkaa

namespace Go.Proofs.Ytoedcieofjcgkaa
open Go.RowKit

/-- Heads of the call's own over rows that lie spread below them. -/
theorem heads_of_spread {w4 wr : World} {lo c : Nat} {A D : Option Addr} {rs : List RowV} (hs : Spread w4 lo A rs) (hb : Below w4.heap.size w4 wr) (ho : wr.ownsRow w4.heap.size 33 1 (.slice D rs.length c) rs.length (rowVals rs)) (hl : lo ≤ w4.heap.size) : Heads wr lo D c rs := by
  obtain ⟨ps, h2, h3, -⟩ := hs
  refine ⟨own_lower ho hl, ps, h2.below hb, fun p hp => ⟨(h3 p hp).1, Nat.le_trans (h3 p hp).2 hb.size⟩, fun a ha p hp => .inr ?_⟩
  subst ha
  exact Nat.le_trans (h3 p hp).2 (ho.lt a.block rfl).1

end Go.Proofs.Ytoedcieofjcgkaa

namespace Go.Proofs.Ytoedcieofjcgkaa
open Go.RowKit

/-- The rides that are told. -/
def ridesLs (xs : List Int) (bs : List Bool) (m : Nat) (s : Int) (sb : List Bool) (t : Bool) : List (List Int) := if crewState xs m s sb t then ridesAt sb t (crewLists xs bs s) else []

set_option maxHeartbeats 12800000 in
set_option maxRecDepth 100000 in
set_option linter.unusedSimpArgs false in
set_option linter.unusedVariables false in
theorem implRidesOfCrew_any (A : Option Addr) (n0 : Nat) (B : Option Addr) (m d : Nat) (xs : List Int) (bs : List Bool) (s : Int) (D0 : Option Addr) (q z : Nat) (sb : List Bool) (t : Bool) (w : World) (hA : Holds w A (nums xs)) (hB : Holds w B (bits bs)) (hD : Holds w D0 (bits sb)) (hx : xs.length = n0) (hy : bs.length = m) (hqq : sb.length = q) (hn : n0 ≤ 9223372036854775807) (hq : q ≤ 9223372036854775807) :
    Calls Try.prog 29 #[.agg #[.slice A n0 n0, .slice B m d, .int .i64 s], .agg #[.slice D0 q z, .bool t]] w (BackPost (ridesLs xs bs m s sb t) (crewState xs m s sb t) w) := by
  have HX := Lib.hid hx
  have HY := Lib.hid hy
  have HQ := Lib.hid hqq
  have hc := (Whole.fresh w 39 #[.slice A n0 n0, .slice B m d, .int .i64 s]).alloc (.cells #[.slice D0 q z, .bool t] 48)
  have ht := below2 w (.cells #[.slice A n0 n0, .slice B m d, .int .i64 s] 39) (.cells #[.slice D0 q z, .bool t] 48)
  have hcp := crewPlace_any A n0 n0 B m d xs s D0 q z sb t _ (hA.below ht) (hD.below ht) HX.out HQ.out hn hq
  go_enter Try.func29, Try.ntmps29
  go_wp2_with fail
  refine hcp.mono ?_
  clear hcp
  rintro e w1 ⟨⟨hp1, rfl⟩ | ⟨hp1, rfl⟩, hb⟩
  all_goals
    replace ht := below_then ht hb (by simp; omega)
    replace hc := hc.below hb
    have hlc := hc.lt
    clear hb
  rotate_left
  · have HF : Hid (ridesLs xs bs m s sb t = [] ∧ crewState xs m s sb t = false) := ⟨by simp [ridesLs, hp1], hp1⟩
    clear hp1
    unfold placeCells
    replace ht := ht.alloc ht.size (.cells #[.bool false, .bool false, .bool false, .bool false, .bool false, .bool false, .bool false, .bool false, .bool false] 79)
    replace hc := hc.alloc (.cells #[.bool false, .bool false, .bool false, .bool false, .bool false, .bool false, .bool false, .bool false, .bool false] 79)
    go_upto_region 2 with fail
    generalize w1.alloc (.cells #[.bool false, .bool false, .bool false, .bool false, .bool false, .bool false, .bool false, .bool false, .bool false] 79) = W1 at hc ht ⊢
    clear hc
    go_wp2
    go_ret2
    rw [HF.out.1, HF.out.2]
    exact BackPost.no ht
  obtain ⟨hok, hsl⟩ := crewState_ok hp1
  have hn7 : n0 ≤ 7 := by have := hok.seven; omega
  have hn1 : 1 ≤ n0 := by have := hok.one; omega
  have hm8 : m ≤ 8 := by have := hok.rows; omega
  have HW := Lib.hid hok.weights
  have HSM := Lib.hid (crew_small (xs := xs) bs s (by omega))
  have HUP : Hid (∀ l ∈ crewLists xs bs s, l ∈ upLists n0 n0) := fun l hl => by have := crew_up hl; rw [hx] at this; exact this
  have HBS : Hid (sb.length = n0) := by show _ = _; omega
  obtain ⟨f, hf⟩ : ∃ f : Nat → Bool, f = fun i => sb.getD i false := ⟨_, rfl⟩
  have HPL : Hid (placeCells sb t = place9 f t) := by show _ = _; rw [place_nine9, hf]
  have hp := Whole.fresh w1 79 (place9 f t)
  replace ht := ht.alloc ht.size (.cells (place9 f t) 79)
  replace hc := hc.alloc (.cells (place9 f t) 79)
  rw [HPL.out]
  clear hf
  have HF : Hid (ridesLs xs bs m s sb t = ridesAt sb t (crewLists xs bs s) ∧ crewState xs m s sb t = true) := ⟨by simp [ridesLs, hp1], hp1⟩
  obtain ⟨gP, hgP⟩ : ∃ g : Nat, g = w1.heap.size := ⟨_, rfl⟩
  rw [← hgP] at hp
  obtain ⟨i0, hi, hz0, hz1, hz2⟩ := info_parts info_row
  have HI := Lib.hid hi
  have HZ0 := Lib.hid hz0
  have HZ1 := Lib.hid hz1
  have HZ2 := Lib.hid hz2
  clear hp1 hi hz0 hz1 hz2 hok hsl hx hy hqq
  unfold place9 at hc hp ht
  unfold place9
  go_upto_region 5 with fail
  rw [← hgP]
  clear hgP
  generalize w1.alloc (.cells #[.bool (f 0), .bool (f 1), .bool (f 2), .bool (f 3), .bool (f 4), .bool (f 5), .bool (f 6), .bool (f 7), .bool t] 79) = W1 at hc hp ht ⊢
  refine wp_region_held_drew (S := (fun w' => Box3 w.heap.size (.slice A n0 n0) (.slice B m d) (.int .i64 s) w' ∧ Row8 gP f w' ∧ w'.cell? ⟨gP, 8, none⟩ = some (.bool t))) (by kernel_rfl) ⟨box3_of hc.drew, row8_of hp.drew, hp.drew.cell 8⟩ (fun hHeld => ?_)
  replace ht := ht.drew
  replace hc := hc.drew
  replace hp := hp.drew
  refine wpAnyH_take (i := 0) (v := ?_) rfl (by kernel_rfl) (by kernel_rfl) (by kernel_rfl) (fun _ _ _ h => h) (Or.inl ⟨rfl, ?_⟩) hHeld ?_
  rotate_left
  · intro w' hS; obtain ⟨⟨s0, s1, s2⟩, ⟨a0, a1, a2, a3, a4, a5, a6, a7⟩, a8⟩ := hS; go_simp <;> with_reducible rfl
  simp only [Act.put, List.getElem_toArray, List.getElem_cons_succ, List.getElem_cons_zero, List.setIfInBounds_toArray, List.set_cons_succ, List.set_cons_zero]
  refine wpAnyH_take (i := 3) (v := ?_) rfl (by kernel_rfl) (by kernel_rfl) (by kernel_rfl) (fun _ _ _ h => h) (Or.inl ⟨rfl, ?_⟩) hHeld ?_
  rotate_left
  · intro w' hS; obtain ⟨⟨s0, s1, s2⟩, ⟨a0, a1, a2, a3, a4, a5, a6, a7⟩, a8⟩ := hS; go_simp <;> with_reducible rfl
  simp only [Act.put, List.getElem_toArray, List.getElem_cons_succ, List.getElem_cons_zero, List.setIfInBounds_toArray, List.set_cons_succ, List.set_cons_zero]
  refine wpAnyH_take (i := 6) (v := ?_) rfl (by kernel_rfl) (by kernel_rfl) (by kernel_rfl) (fun _ _ _ h => h) (Or.inl ⟨rfl, ?_⟩) hHeld ?_
  rotate_left
  · intro w' hS; obtain ⟨⟨s0, s1, s2⟩, ⟨a0, a1, a2, a3, a4, a5, a6, a7⟩, a8⟩ := hS; go_simp <;> with_reducible rfl
  simp only [Act.put, List.getElem_toArray, List.getElem_cons_succ, List.getElem_cons_zero, List.setIfInBounds_toArray, List.set_cons_succ, List.set_cons_zero]
  refine wpAnyH_ready (rs := [1]) (by kernel_rfl) (by simp) (AllReadyH.cons rfl (fun K hK => ?_) AllReadyH.nil)
  go_simp
  refine (crewRiver_any A n0 B m d xs bs s _ (by exact hA.below ht) (by exact hB.below ht) HX.out HY.out hn1 hn7 hm8 HW.out).mono ?_
  rintro e w2 ⟨gL, g, E1, c1, rfl, hF, hb⟩
  replace ht := below_then ht hb ht.size
  replace hc := hc.below hb
  replace hp := hp.below hb
  clear hb
  have HT2 := Lib.hid ht
  have hfd : ∀ W : World, (Instr.field 82 (.agg (crewCells n0 gL)) 2).run Try.prog W = .ok (ridesFnV gL) W := fun _ => by kernel_rfl
  unfold crewCells ridesFnV at hfd
  unfold crewCells ridesFnV
  refine hK.out _ _ ⟨box3_of hc, row8_of hp, hp.cell 8⟩ (fun hHeld => ?_)
  clear hK K
  try simp only [Act.put, List.getElem_toArray, List.getElem_cons_succ, List.getElem_cons_zero, List.setIfInBounds_toArray, List.set_cons_succ, List.set_cons_zero]
  refine wpAnyH_take (i := 2) (v := ?_) rfl (by kernel_rfl) (by kernel_rfl) (by kernel_rfl) (fun _ _ _ h => h) (Or.inl ⟨rfl, ?_⟩) hHeld ?_
  rotate_left
  · intro w' hS; obtain ⟨⟨s0, s1, s2⟩, ⟨a0, a1, a2, a3, a4, a5, a6, a7⟩, a8⟩ := hS; go_simp <;> with_reducible rfl
  simp only [Act.put, List.getElem_toArray, List.getElem_cons_succ, List.getElem_cons_zero, List.setIfInBounds_toArray, List.set_cons_succ, List.set_cons_zero]
  refine wpAnyH_ready (rs := [4]) (by kernel_rfl) (by simp) (AllReadyH.cons rfl (fun K hK => ?_) AllReadyH.nil)
  go_simp
  have hrf := ridesFn_any (loadOf xs) n0 gL g E1 c1 (crewLists xs bs s) sb t _ (by omega) HBS.out HSM.out HUP.out hF
  rw [HPL.out] at hrf
  unfold place9 at hrf
  refine hrf.mono ?_
  clear hrf
  rintro e w4 ⟨A1, c2, rs, rfl, hrn, hM, hb⟩
  have hw24 := hb.size
  replace ht := below_then ht hb ht.size
  replace hc := hc.below hb
  replace hp := hp.below hb
  clear hb
  refine hK.out _ _ ⟨box3_of hc, row8_of hp, hp.cell 8⟩ (fun hHeld => ?_)
  clear hK K
  try simp only [Act.put, List.getElem_toArray, List.getElem_cons_succ, List.getElem_cons_zero, List.setIfInBounds_toArray, List.set_cons_succ, List.set_cons_zero]
  refine wpAnyH_take (i := 5) (v := ?_) rfl (by kernel_rfl) (by kernel_rfl) (by kernel_rfl) (fun _ _ _ h => h) (Or.inl ⟨rfl, ?_⟩) hHeld ?_
  rotate_left
  · intro w' hS; obtain ⟨⟨s0, s1, s2⟩, ⟨a0, a1, a2, a3, a4, a5, a6, a7⟩, a8⟩ := hS; go_simp <;> with_reducible rfl
  simp only [Act.put, List.getElem_toArray, List.getElem_cons_succ, List.getElem_cons_zero, List.setIfInBounds_toArray, List.set_cons_succ, List.set_cons_zero]
  refine wpAnyH_done (by kernel_rfl) ?_ _
  clear hHeld
  clear hc hp hF
  have HM := Lib.hid hM
  have HRN := Lib.hid hrn
  have hrl : rs.length ≤ 255 := by have h1 := congrArg List.length hrn; have h2 := rides_len sb t (crewLists xs bs s); have h3 := HSM.out; rw [rowNums_len] at h1; omega
  have HT := Lib.hid ht
  have hws := ht.size
  have HWS : Hid (w.heap.size ≤ w2.heap.size) := HT2.out.size
  clear hM hrn ht
  go_wp2
  go_loopw [8, 25] (fun v i wr => ∃ (j : Nat) (D : Option Addr) (c : Nat), j ≤ rs.length ∧ i = .int .i64 j ∧ v = .slice D j c ∧ wr.ownsRow w4.heap.size 33 1 (.slice D j c) j (rowVals (rs.take j)) ∧ Below w4.heap.size w4 wr) (fun _ i _ => rs.length - (intOf i).toNat)
  case atStart => exact ⟨0, none, 0, Nat.zero_le _, rfl, rfl, World.ownsRow_nil _ _ _ _, Below.refl _ _⟩
  case round =>
    obtain ⟨j, D, c, hj, rfl, rfl, hown, hb⟩ := hrel
    by_cases hlt : j < rs.length
    · have hd : decide ((j : Int) < (rs.length : Int)) = true := by simp; omega
      obtain ⟨gm, rfl, hgl, a0, a1, a2, a3, a4, a5, a6, a7, a8, a9⟩ := moves_row (HM.out.below hb) hlt
      obtain ⟨f', hf'⟩ : ∃ f' : Nat → Bool, f' = fun i => (flipped sb rs[j].xs).getD i false := ⟨_, rfl⟩
      replace a1 : wr.cell? ⟨gm, j * 10 + 1, none⟩ = some (.bool (f' 0)) := by rw [a1, hf']
      replace a2 : wr.cell? ⟨gm, j * 10 + 2, none⟩ = some (.bool (f' 1)) := by rw [a2, hf']
      replace a3 : wr.cell? ⟨gm, j * 10 + 3, none⟩ = some (.bool (f' 2)) := by rw [a3, hf']
      replace a4 : wr.cell? ⟨gm, j * 10 + 4, none⟩ = some (.bool (f' 3)) := by rw [a4, hf']
      replace a5 : wr.cell? ⟨gm, j * 10 + 5, none⟩ = some (.bool (f' 4)) := by rw [a5, hf']
      replace a6 : wr.cell? ⟨gm, j * 10 + 6, none⟩ = some (.bool (f' 5)) := by rw [a6, hf']
      replace a7 : wr.cell? ⟨gm, j * 10 + 7, none⟩ = some (.bool (f' 6)) := by rw [a7, hf']
      replace a8 : wr.cell? ⟨gm, j * 10 + 8, none⟩ = some (.bool (f' 7)) := by rw [a8, hf']
      have hnx : rowVals (rs.take (j + 1)) = rowVals (rs.take j) ++ [rs[j].val] := by
        unfold rowVals
        rw [List.take_succ_eq_append_getElem hlt, List.map_append, List.map_cons, List.map_nil]
      have HNX := Lib.hid hnx
      clear hf' hnx
      generalize rs[j] = r at a0 HNX
      obtain ⟨rA, rn, rc, rx⟩ := r
      unfold RowV.val at a0 HNX
      simp only at a0 HNX
      have hbs := hb.size
      obtain ⟨X, hX⟩ : ∃ X : Obj, X = (.cells #[.slice rA rn rc, .bool (f' 0), .bool (f' 1), .bool (f' 2), .bool (f' 3), .bool (f' 4), .bool (f' 5), .bool (f' 6), .bool (f' 7), .bool (!t)] 95) := ⟨_, rfl⟩
      have HOWN := Lib.hid ((own_keep hown (below1 wr X)).alloc (.cells #[.slice rA rn rc] 33))
      have HB := Lib.hid (hb.alloc hbs X)
      have HMAX := Lib.hid (show j + 1 ≤ maxLen by unfold maxLen; omega)
      have HBYT := Lib.hid (show (j + 1) * 24 ≤ 140737488355328 by omega)
      have HBASE := Lib.hid (show w4.heap.size ≤ ((wr.alloc X).alloc (.cells #[.slice rA rn rc] 33)).heap.size by simp; omega)
      have HB2 := Lib.hid (HB.out.alloc (by simp; omega) (.cells #[.slice rA rn rc] 33))
      have hcn := cell_one_new (wr.alloc X) (.slice rA rn rc) 33
      rw [World.size_alloc] at hcn
      have HCN := Lib.hid hcn
      clear hcn
      subst hX
      clear hown hb
      go_wp2_with (at_builtin; refine wpList_append_lies _ rfl (.tmp 29) (.tmp 32) 24 rfl w4.heap.size 33 i0 (.slice none 0 0) 1 24 Try.underlying24 HI.out HZ0.out HZ1.out HZ2.out rfl (by decide) (.slice D j c) j (rowVals (rs.take j)) rfl HOWN.out ⟨wr.heap.size + 1, 0, none⟩ 1 1 [.slice rA rn rc] rfl rfl HCN.out (by simp [Value.oneCell']) (by decide) HMAX.out HBYT.out HBASE.out (wr.heap.size + 1 + 1) (by simp) ?_; intro g1 cap w5 hown4 hg4 hat hlt4)
      have HBN := Lib.hid (HB2.out.grown hg4 HBASE.out (fun kk hkk => (HOWN.out.lt kk hkk).1))
      have HO4 := Lib.hid hown4
      clear hown4 hg4 hat hlt4 a0 a1 a2 a3 a4 a5 a6 a7 a8 a9
      go_roundw
      case rel => exact ⟨j + 1, some ⟨g1, 0, none⟩, cap, by omega, by go_num, rfl, by rw [HNX.out]; exact HO4.out, HBN.out⟩
      case measure => simp [intOf]; omega
    · obtain rfl : j = rs.length := by omega
      have hd : decide ((rs.length : Int) < (rs.length : Int)) = false := by simp
      rw [List.take_length] at hown
      have HH := Lib.hid ((heads_of_spread HM.out.2 hb hown hw24).raise HWS.out)
      have HBN := Lib.hid (below_then HT.out hb hws)
      clear hown hb
      go_wp2
      go_ret2
      rw [HF.out.1, HF.out.2]
      exact ⟨D, rs.length, c, rs, rfl, HRN.out, rfl, HH.out.free, HBN.out⟩
end Go.Proofs.Ytoedcieofjcgkaa

namespace Go.Proofs.Ytoedcieofjcgkaa
open Go.RowKit

/-- Some of the rows that lie spread lie spread. -/
theorem free_pair {w : World} {ps : List (Nat × Nat)} {rs : List RowV} (h : FreeRows w ps rs) : (∀ y ∈ rs.zip ps, Fresh w y.2.1 y.2.2 3 y.1.A (nums y.1.xs) ∧ y.1.xs.length = y.1.n ∧ y.1.n ≤ 1048576) ∧ (rs.zip ps).Pairwise (fun a b => a.2.2 ≤ b.2.1 ∨ b.2.2 ≤ a.2.1) := by
  obtain ⟨h1, h2, h3⟩ := h
  refine ⟨fun y hy => ?_, ?_⟩
  · obtain ⟨k, hk, rfl⟩ := List.getElem_of_mem hy
    have hk' : k < rs.length ∧ k < ps.length := by have h9 := hk; rw [List.length_zip] at h9; omega
    have := h2 k rs[k] ps[k] (by simp [hk'.1]) (by simp [hk'.2])
    simpa using this
  · rw [List.pairwise_iff_getElem]
    intro i j hi hj hij
    have hi' : i < rs.length ∧ i < ps.length := by have h9 := hi; rw [List.length_zip] at h9; omega
    have hj' : j < rs.length ∧ j < ps.length := by have h9 := hj; rw [List.length_zip] at h9; omega
    have := h3 i j ps[i] ps[j] (by omega) (by simp [hi'.2]) (by simp [hj'.2])
    simpa using this
theorem free_of {w : World} {zs : List (RowV × (Nat × Nat))} (h1 : ∀ y ∈ zs, Fresh w y.2.1 y.2.2 3 y.1.A (nums y.1.xs) ∧ y.1.xs.length = y.1.n ∧ y.1.n ≤ 1048576) (h2 : zs.Pairwise (fun a b => a.2.2 ≤ b.2.1 ∨ b.2.2 ≤ a.2.1)) : FreeRows w (zs.map Prod.snd) (zs.map Prod.fst) := by
  refine ⟨by simp, fun k r p hr hp => ?_, fun i j p p' hne hp hp' => ?_⟩
  · rw [List.getElem?_map] at hr hp
    obtain ⟨y, hy, rfl⟩ := Option.map_eq_some_iff.1 hr
    rw [hy] at hp
    obtain rfl : y.2 = p := by simpa using hp
    exact h1 y (List.mem_of_getElem? hy)
  · rw [List.getElem?_map] at hp hp'
    obtain ⟨y, hy, rfl⟩ := Option.map_eq_some_iff.1 hp
    obtain ⟨y', hy', rfl⟩ := Option.map_eq_some_iff.1 hp'
    obtain ⟨hi, rfl⟩ := List.getElem?_eq_some_iff.1 hy
    obtain ⟨hj, rfl⟩ := List.getElem?_eq_some_iff.1 hy'
    rcases Nat.lt_or_gt_of_ne hne with h | h
    · exact List.pairwise_iff_getElem.1 h2 i j hi hj h
    · exact (List.pairwise_iff_getElem.1 h2 j i hj hi h).symm
theorem Heads.some_of {w wr : World} {lo c c' : Nat} {A D : Option Addr} {rs : List RowV} (f : RowV → Bool) (h : Heads w lo A c rs) (hb : Below w.heap.size w wr) (ho : wr.ownsRow w.heap.size 33 1 (.slice D (rs.filter f).length c') (rs.filter f).length (rowVals (rs.filter f))) (hl : lo ≤ w.heap.size) : Heads wr lo D c' (rs.filter f) := by
  obtain ⟨-, ps, hf, hp, -⟩ := h
  obtain ⟨h1, h2⟩ := free_pair hf
  have hz : ((rs.zip ps).filter (fun y => f y.1)).map Prod.fst = rs.filter f := by
    have h0 : (rs.zip ps).map Prod.fst = rs := by rw [List.map_fst_zip]; rw [hf.1]; exact Nat.le_refl _
    have h6 : rs.filter f = ((rs.zip ps).map Prod.fst).filter f := by rw [h0]
    rw [h6, List.filter_map]
    rfl
  have hfree : FreeRows w (((rs.zip ps).filter (fun y => f y.1)).map Prod.snd) (rs.filter f) := by
    rw [← hz]
    exact free_of (fun y hy => h1 y (List.mem_filter.1 hy).1) (h2.sublist List.filter_sublist)
  have hps : ∀ p ∈ ((rs.zip ps).filter (fun y => f y.1)).map Prod.snd, p ∈ ps := fun p hp => by
    obtain ⟨y, hy, rfl⟩ := List.mem_map.1 hp
    exact (List.of_mem_zip (List.mem_filter.1 hy).1).2
  refine ⟨own_lower ho hl, _, hfree.below hb, fun p hp' => ⟨(hp p (hps p hp')).1, Nat.le_trans (hp p (hps p hp')).2 hb.size⟩, fun a ha p hp' => .inr ?_⟩
  subst ha
  exact Nat.le_trans (hp p (hps p hp')).2 (ho.lt a.block rfl).1
theorem subs_any {m m' : Nat} : ∀ (o b : List Int), b.length + o.length ≤ m → b.length + o.length ≤ m' → subs m o b = subs m' o b
  | [], _, _, _ => rfl
  | k :: r, b, h, h' => by
    have h0 : b.length + (r.length + 1) ≤ m := h
    have h0' : b.length + (r.length + 1) ≤ m' := h'
    have e1 : subs m (k :: r) b = ((b ++ [k]) :: subs m r (b ++ [k])) ++ subs m r b := by rw [subs, if_neg (by omega)]
    have e2 : subs m' (k :: r) b = ((b ++ [k]) :: subs m' r (b ++ [k])) ++ subs m' r b := by rw [subs, if_neg (by omega)]
    rw [e1, e2, subs_any (m' := m') r (b ++ [k]) (by simp; omega) (by simp; omega), subs_any (m' := m') r b (by omega) (by omega)]
theorem subs_filter (P : Int → Bool) (m : Nat) : ∀ (o b : List Int), b.length + o.length ≤ m → subs m (o.filter P) b = (subs m o b).filter (fun l => (l.drop b.length).all P)
  | [], _, _ => rfl
  | k :: r, b, h => by
    have h0 : b.length + (r.length + 1) ≤ m := h
    have hd : ∀ l ∈ subs m r (b ++ [k]), ((l.drop b.length).all P) = (P k && (l.drop (b ++ [k]).length).all P) := fun l hl => by
      obtain ⟨c, rfl, -, -, -⟩ := (subs_mem m r (b ++ [k]) l).1 hl
      rw [List.append_assoc, List.drop_left, show b ++ ([k] ++ c) = (b ++ [k]) ++ c by simp, List.drop_left]
      simp
    have ih := subs_filter P m r b (by omega)
    rw [subs, if_neg (by omega), List.filter_append, List.filter_cons, ← ih]
    by_cases hk : P k = true
    · have ih2 := subs_filter P m r (b ++ [k]) (by simp; omega)
      have hlen : (r.filter P).length ≤ r.length := List.length_filter_le _ _
      rw [List.filter_cons, if_pos hk, subs, if_neg (by omega), ih2]
      rw [List.filter_congr hd]
      simp [hk]
    · have hk' : P k = false := by simpa using hk
      rw [List.filter_cons, if_neg hk, List.filter_congr hd]
      simp [hk']
/-- What the model's rides come to. -/
def RidesPost (ls : List (List Int)) (w : World) (e : Ending) (w' : World) : Prop :=
  ∃ (A : Option Addr) (c : Nat) (rs : List RowV), e = .returned (.slice A rs.length c) ∧ rowNums rs = ls ∧ Heads w' w.heap.size A c rs ∧ Below w.heap.size w w'
theorem nums_filter (f : List Int → Bool) (rs : List RowV) : rowNums (rs.filter (fun r => f r.xs)) = (rowNums rs).filter f := by
  rw [rowNums, rowNums, List.filter_map]; rfl
/-- The rides among the groups of those who are where the boat is. -/
theorem rides_groups {xs : List Int} {bs : List Bool} {m : Nat} {s : Int} {sb : List Bool} {t : Bool} (hok : CrewOk xs m s) (hsl : sb.length = xs.length) :
    (subs (hereTo sb t sb.length).length (hereTo sb t sb.length) []).filter (fun l => canRide xs bs s sb t l) = ridesAt sb t (crewLists xs bs s) := by
  have hh : hereTo sb t sb.length = (firsts sb.length).filter (fun k => sb.getD k.toNat false == t) := here_range sb t sb.length
  have hle : (hereTo sb t sb.length).length ≤ sb.length := here_len sb t _
  rw [subs_any (m' := sb.length) (hereTo sb t sb.length) [] (by simp) (by simpa using hle), hh, subs_filter _ _ (firsts sb.length) [] (by simp [firsts_len]), List.filter_filter]
  rw [ridesAt, crewLists, legsIn, List.filter_filter, hsl, upLists]
  refine List.filter_congr fun l hl => ?_
  have hu := up_steps (n := xs.length) (m := xs.length) hl
  have h1 : rising l ((xs.length : Int) - 1) = true := rising_yes hu.1 (Nat.le_refl _)
  have h2 : l ≠ [] := fun e => by subst e; simp at hu
  have h3 : (l.drop ([] : List Int).length).all (fun k => sb.getD k.toNat false == t) = allAt sb t l := rfl
  rw [h3]
  simp only [canRide, h1, legOk, ne_eq, h2, not_false_eq_true, decide_true, Bool.true_and]
  cases allAt sb t l <;> cases canRow bs l <;> cases decide (loadOf xs l ≤ s) <;> rfl

set_option maxHeartbeats 6400000 in
set_option maxRecDepth 100000 in
set_option linter.unusedVariables false in
set_option linter.unusedSimpArgs false in
theorem loRides_any (A : Option Addr) (n c : Nat) (B : Option Addr) (m d : Nat) (xs : List Int) (bs : List Bool) (s : Int) (D : Option Addr) (q z : Nat) (sb : List Bool) (t : Bool) (w : World) (hA : Holds w A (nums xs)) (hB : Holds w B (bits bs)) (hD : Holds w D (bits sb)) (hx : xs.length = n) (hy : bs.length = m) (hqq : sb.length = q) (hok : CrewOk xs m s) (hsl : sb.length = xs.length) :
    Calls Try.prog 72 #[.agg #[.slice A n c, .slice B m d, .int .i64 s], .agg #[.slice D q z, .bool t]] w (RidesPost (ridesAt sb t (crewLists xs bs s)) w) := by
  have hq8 : q ≤ 8 := by have := hok.seven; omega
  obtain ⟨i0, hi, hz0, hz1, hz2⟩ := info_parts info_int
  have HI := Lib.hid hi
  have HZ0 := Lib.hid hz0
  have HZ1 := Lib.hid hz1
  have HZ2 := Lib.hid hz2
  obtain ⟨i1, hi1, hy0, hy1, hy2⟩ := info_parts info_row
  have HI1 := Lib.hid hi1
  have HY0 := Lib.hid hy0
  have HY1 := Lib.hid hy1
  have HY2 := Lib.hid hy2
  have HX := Lib.hid hx
  have HYB := Lib.hid hy
  have HY := Lib.hid hqq
  have HOK := Lib.hid hok
  have HSL := Lib.hid hsl
  have HRG := Lib.hid (rides_groups (bs := bs) (t := t) hok hsl)
  have h0 := (Whole.fresh w 39 #[.slice A n c, .slice B m d, .int .i64 s]).alloc (.cells #[.slice D q z, .bool t] 48)
  have h1 := Whole.fresh (w.alloc (.cells #[.slice A n c, .slice B m d, .int .i64 s] 39)) 48 #[.slice D q z, .bool t]
  rw [World.size_alloc] at h1
  have hbw := below2 w (.cells #[.slice A n c, .slice B m d, .int .i64 s] 39) (.cells #[.slice D q z, .bool t] 48)
  have HBW := Lib.hid hbw
  have HH0 := Lib.hid h0
  have HH1 := Lib.hid h1
  obtain ⟨c0, c1, c2⟩ := h0.cells3
  obtain ⟨e0, e1, -, -⟩ := h1.two
  clear hi hz0 hz1 hz2 hi1 hy0 hy1 hy2 hx hy hqq hok hsl hbw h0 h1
  go_enter Try.func72, Try.ntmps72
  go_wp2
  clear c0 c1 c2 e0 e1
  go_loopw [5, 14] (fun v i wr => ∃ (k : Nat) (E : Option Addr) (r : Nat), k ≤ q ∧ i = .int .i64 k ∧ v = .slice E (hereTo sb t k).length r ∧ wr.ownsRow (w.heap.size + 2) 3 1 (.slice E (hereTo sb t k).length r) (hereTo sb t k).length (nums (hereTo sb t k)) ∧ Below (w.heap.size + 2) ((w.alloc (.cells #[.slice A n c, .slice B m d, .int .i64 s] 39)).alloc (.cells #[.slice D q z, .bool t] 48)) wr) (fun _ i _ => q - (intOf i).toNat)
  case atStart => exact ⟨0, none, 0, Nat.zero_le _, rfl, rfl, World.ownsRow_nil _ _ _ _, Below.refl _ _⟩
  case round =>
    obtain ⟨k, E, r, hk, rfl, rfl, hown, hb⟩ := hrel
    have hb' : Below w.heap.size w wr := HBW.out.trans (hb.mono (by omega))
    have hhl := here_len sb t k
    obtain ⟨c0, c1, c2⟩ := (HH0.out.below' hb (by omega)).cells3
    obtain ⟨e0, e1, -, -⟩ := (HH1.out.below' hb (by omega)).two
    have hs2 : w.heap.size + 2 ≤ wr.heap.size := by have := hb.size; simpa using this
    by_cases hlt : k < q
    · have hkb : k < sb.length := by have := HY.out; omega
      obtain ⟨b1, o1, rfl, hbl1, hcell⟩ := (hD.below hb').look (k := k) (by rw [bits_len]; exact hkb)
      simp only [bits, List.getElem_map] at hcell
      have hg : sb.getD k false = sb[k] := by simp [hkb]
      have hyes := here_yes (bs := sb) (t := t) (k := k)
      have hno := here_no (bs := sb) (t := t) (k := k)
      rw [hg] at hyes hno
      generalize sb[k] = x at hcell hyes hno
      clear hg
      have HOWN := Lib.hid hown
      have HB := Lib.hid hb
      clear hown hb hb'
      by_cases hxt : x = t
      · subst hxt
        have HS := Lib.hid (hyes (by simp))
        have HOW := Lib.hid (HOWN.out.alloc (.cells #[.int .i64 k] 3))
        have HBB := Lib.hid (HB.out.alloc (by simpa using hs2) (.cells #[.int .i64 k] 3))
        have HBASE := Lib.hid (show w.heap.size + 2 ≤ (wr.alloc (.cells #[.int .i64 k] 3)).heap.size by simp; omega)
        have HMAX := Lib.hid (show (hereTo sb x k).length + 1 ≤ maxLen by unfold maxLen; omega)
        have HBYT := Lib.hid (show ((hereTo sb x k).length + 1) * 8 ≤ 140737488355328 by omega)
        have HLEN : Hid ((hereTo sb x (k + 1)).length = (hereTo sb x k).length + 1) := by show _ = _; rw [HS.out]; simp
        clear hyes hno
        go_wp2_with (at_builtin; refine wpList_append_own _ rfl (.tmp 23) (.tmp 25) 33 rfl (w.heap.size + 2) 3 i0 (.int .i64 0) 1 8 Try.underlying33 HI.out HZ0.out HZ1.out HZ2.out rfl (by decide) (.slice E (hereTo sb x k).length r) (hereTo sb x k).length (nums (hereTo sb x k)) rfl HOW.out ⟨wr.heap.size, 0, none⟩ 1 1 [.int .i64 k] rfl rfl (cell_one_new _ _ _) (by simp [Value.oneCell']) HMAX.out HBYT.out HBASE.out ?_; intro v' w2 hown1 hg1 _; obtain ⟨D', q', hv', -⟩ := Fresh.of_own hown1 (Nat.le_refl _); rw [hv'] at hown1 ⊢; clear hv')
        have HBN := Lib.hid (HBB.out.grown hg1 HBASE.out (fun kk e => (HOW.out.lt _ e).1))
        have HON := Lib.hid hown1
        clear hg1 hown1
        go_roundw
        case rel => exact ⟨k + 1, D', q', by omega, by go_num, by rw [HLEN.out], by rw [HLEN.out, HS.out, show nums (hereTo sb x k ++ [(k : Int)]) = nums (hereTo sb x k) ++ [.int .i64 k] by simp [nums]]; exact HON.out, HBN.out⟩
        case measure => simp [intOf]; omega
      · have HS := Lib.hid (hno (by simpa using hxt))
        have hxf : (x == t) = false := by simpa using hxt
        clear hyes hno
        go_wp2
        go_roundw
        case rel => exact ⟨k + 1, E, r, by omega, by go_num, by rw [HS.out], by rw [HS.out]; exact HOWN.out, HB.out⟩
        case measure => simp [intOf]; omega
    · obtain rfl : k = q := by omega
      have HL := Lib.hid (here_len sb t k)
      have HHH := Lib.hid (holds_of_own hown)
      have hwz : w.heap.size ≤ wr.heap.size := by omega
      have HWZ := Lib.hid hwz
      have HB' := Lib.hid hb'
      rw [HY.out] at HRG
      have hcW := HH0.out.below' hb (by omega)
      have hsW := HH1.out.below' hb (by omega)
      clear hown hb hb' hwz
      go_wp2_with fail
      refine (paGroups_any (hereTo sb t k).length (by omega) 10 none E 0 0 (hereTo sb t k).length r 0 [] (hereTo sb t k) _ (by omega) (by omega) (Nat.zero_le _) (Holds.empty _ _) HHH.out rfl rfl (Nat.zero_le _) (fun _ => ⟨rfl, rfl⟩)).mono ?_
      rintro e w4 ⟨A4, c4, rs4, rfl, hr4, hn4, hs4, hh4, hb4⟩
      rw [show groups (hereTo sb t k).length ((hereTo sb t k).drop 0) [] = subs (hereTo sb t k).length (hereTo sb t k) [] from rfl] at hr4
      have hrl : rs4.length ≤ 255 := by
        have h1 := congrArg List.length hr4
        rw [rowNums_len] at h1
        rw [h1]; exact subs_small (by omega)
      have HR4 := Lib.hid hr4
      have HH4 := Lib.hid hh4
      have HB4 := Lib.hid (below_then HB'.out hb4 HWZ.out)
      have HC4 := Lib.hid (hcW.below hb4)
      have HS4 := Lib.hid (hsW.below hb4)
      have HZ4 := Lib.hid (show w.heap.size ≤ w4.heap.size from Nat.le_trans HWZ.out hb4.size)
      have HRZ := Lib.hid hb4.size
      clear hr4 hn4 hs4 hh4 hb4 c0 c1 c2 e0 e1 hcW hsW
      go_wp2
      go_loopw [8, 33] (fun v i wx => ∃ (j : Nat) (F : Option Addr) (c5 : Nat), j ≤ rs4.length ∧ i = .int .i64 j ∧ v = .slice F ((rs4.take j).filter (fun r => canRide xs bs s sb t r.xs)).length c5 ∧ wx.ownsRow w4.heap.size 33 1 (.slice F ((rs4.take j).filter (fun r => canRide xs bs s sb t r.xs)).length c5) ((rs4.take j).filter (fun r => canRide xs bs s sb t r.xs)).length (rowVals ((rs4.take j).filter (fun r => canRide xs bs s sb t r.xs))) ∧ Below w4.heap.size w4 wx) (fun _ i _ => rs4.length - (intOf i).toNat)
      case atStart => exact ⟨0, none, 0, Nat.zero_le _, rfl, rfl, World.ownsRow_nil _ _ _ _, Below.refl _ _⟩
      case round =>
        obtain ⟨j, F, c5, hj, rfl, rfl, hown, hb⟩ := hrel
        have hsl2 : ((rs4.take j).filter (fun r => canRide xs bs s sb t r.xs)).length ≤ 255 := Nat.le_trans (List.length_filter_le _ _) (by rw [List.length_take]; omega)
        by_cases hlt : j < rs4.length
        · have hd : decide ((j : Int) < (rs4.length : Int)) = true := by simp; omega
          obtain ⟨b5, o5, rfl, hbl5, hcell5, hrow5, hrl5, hrn5⟩ := (HH4.out.free.grid.below hb).look hlt
          have hnx : ∀ f : RowV → Bool, (rs4.take (j + 1)).filter f = (rs4.take j).filter f ++ (if f rs4[j] then [rs4[j]] else []) := fun f => by
            rw [List.take_succ_eq_append_getElem hlt, List.filter_append]
            by_cases hf : f rs4[j] = true <;> simp [hf]
          have HNX := Lib.hid (hnx (fun r => canRide xs bs s sb t r.xs))
          clear hnx
          generalize (rs4.take j).filter (fun r => canRide xs bs s sb t r.xs) = sel at hown hsl2 HNX ⊢
          obtain ⟨c0, c1, c2⟩ := (HC4.out.below hb).cells3
          obtain ⟨e0, e1, -, -⟩ := (HS4.out.below hb).two
          have hbw5 : Below w.heap.size w wr := below_then HB4.out hb HZ4.out
          have HOWN := Lib.hid hown
          have HB := Lib.hid hb
          have HBW5 := Lib.hid hbw5
          generalize hrj : rs4[j] = rr at hcell5 hrow5 hrl5 hrn5 HNX
          clear hrj hown hb hbw5
          obtain ⟨rA, rn, rc, rx⟩ := rr
          simp only [RowV.val] at hcell5 hrow5 hrl5 hrn5
          have HRW := Lib.hid hrow5
          have HRL := Lib.hid hrl5
          clear hrow5 hrl5
          go_wp2_with fail
          refine (loCan_any A n c B m d xs bs s D k z sb t rA rn rc rx wr (by exact hA.below HBW5.out) (by exact hB.below HBW5.out) (by exact hD.below HBW5.out) HRW.out HX.out HYB.out HY.out HRL.out hrn5 HOK.out HSL.out).mono ?_
          rintro e w6 ⟨rfl, hb⟩
          have HB6 := Lib.hid (below_then HB.out hb HB.out.size)
          have HO6 := Lib.hid (ownsRow_below HOWN.out hb)
          clear hb c0 c1 c2 e0 e1 hcell5
          cases hcr : canRide xs bs s sb t rx
          · have HS := Lib.hid (HNX.out.trans (by simp [hcr] : sel ++ (if (fun r : RowV => canRide xs bs s sb t r.xs) ⟨rA, rn, rc, rx⟩ then [(⟨rA, rn, rc, rx⟩ : RowV)] else []) = sel))
            clear hcr
            go_wp2
            go_roundw
            case rel => exact ⟨j + 1, F, c5, by omega, by go_num, by rw [HS.out], by rw [HS.out]; exact HO6.out, HB6.out⟩
            case measure => simp [intOf]; omega
          · have HS := Lib.hid (HNX.out.trans (by simp [hcr] : sel ++ (if (fun r : RowV => canRide xs bs s sb t r.xs) ⟨rA, rn, rc, rx⟩ then [(⟨rA, rn, rc, rx⟩ : RowV)] else []) = sel ++ [⟨rA, rn, rc, rx⟩]))
            have HSL1 : Hid ((sel ++ [(⟨rA, rn, rc, rx⟩ : RowV)]).length = sel.length + 1) := by show _ = _; simp
            have HSV : Hid (rowVals (sel ++ [(⟨rA, rn, rc, rx⟩ : RowV)]) = rowVals sel ++ [.slice rA rn rc]) := by show _ = _; simp [rowVals, RowV.val]
            have HOW := Lib.hid (HO6.out.alloc (.cells #[.slice rA rn rc] 33))
            have HBB := Lib.hid (HB6.out.alloc HB6.out.size (.cells #[.slice rA rn rc] 33))
            have hz6 := HB6.out.size
            have HBASE := Lib.hid (show w4.heap.size ≤ (w6.alloc (.cells #[.slice rA rn rc] 33)).heap.size by simp; omega)
            have HMAX := Lib.hid (show sel.length + 1 ≤ maxLen by unfold maxLen; omega)
            have HBYT := Lib.hid (show (sel.length + 1) * 24 ≤ 140737488355328 by omega)
            have HCN := Lib.hid (cell_one_new w6 (.slice rA rn rc) 33)
            clear hcr hz6
            go_wp2_with (at_builtin; refine wpList_append_own _ rfl (.tmp 41) (.tmp 43) 24 rfl w4.heap.size 33 i1 (.slice none 0 0) 1 24 Try.underlying24 HI1.out HY0.out HY1.out HY2.out rfl (by decide) (.slice F sel.length c5) sel.length (rowVals sel) rfl HOW.out ⟨w6.heap.size, 0, none⟩ 1 1 [.slice rA rn rc] rfl rfl HCN.out (by simp [Value.oneCell']) HMAX.out HBYT.out HBASE.out ?_; intro v' w7 hown1 hg1 _; obtain ⟨g2, e2, hv2⟩ := own_form hown1; subst hv2)
            have HBN := Lib.hid (HBB.out.grown hg1 HBASE.out (fun kk hkk => (HOW.out.lt kk hkk).1))
            have HON := Lib.hid hown1
            clear hown1 hg1
            go_roundw
            case rel => exact ⟨j + 1, some ⟨g2, 0, none⟩, e2, by omega, by go_num, by rw [HS.out, HSL1.out], by rw [HS.out, HSL1.out, HSV.out]; exact HON.out, HBN.out⟩
            case measure => simp [intOf]; omega
        · obtain rfl : j = rs4.length := by omega
          have hd : decide ((rs4.length : Int) < (rs4.length : Int)) = false := by simp
          rw [List.take_length] at hown ⊢
          have HHD := Lib.hid ((Heads.some_of (fun r => canRide xs bs s sb t r.xs) HH4.out hb hown HRZ.out).raise HWZ.out)
          have HBN := Lib.hid (below_then HB4.out hb HZ4.out)
          have HRN := Lib.hid (nums_filter (fun l => canRide xs bs s sb t l) rs4)
          clear hown hb
          go_wp2
          go_ret
          exact ⟨F, c5, _, rfl, by rw [HRN.out, HR4.out, HRG.out], HHD.out, HBN.out⟩

set_option maxHeartbeats 3200000 in
set_option maxRecDepth 100000 in
set_option linter.unusedVariables false in
theorem specRidesOfCrew_any (A : Option Addr) (n c : Nat) (B : Option Addr) (m d : Nat) (xs : List Int) (bs : List Bool) (s : Int) (D : Option Addr) (q z : Nat) (sb : List Bool) (t : Bool) (w : World) (hA : Holds w A (nums xs)) (hB : Holds w B (bits bs)) (hD : Holds w D (bits sb)) (hx : xs.length = n) (hy : bs.length = m) (hqq : sb.length = q) (hn : n ≤ 9223372036854775807) (hq : q ≤ 9223372036854775807) :
    Calls Try.prog 27 #[.agg #[.slice A n c, .slice B m d, .int .i64 s], .agg #[.slice D q z, .bool t]] w (BackPost (ridesLs xs bs m s sb t) (crewState xs m s sb t) w) := by
  have HX := Lib.hid hx
  have HY := Lib.hid hy
  have HQ := Lib.hid hqq
  have h0 := (Whole.fresh w 39 #[.slice A n c, .slice B m d, .int .i64 s]).alloc (.cells #[.slice D q z, .bool t] 48)
  have h1 := Whole.fresh (w.alloc (.cells #[.slice A n c, .slice B m d, .int .i64 s] 39)) 48 #[.slice D q z, .bool t]
  rw [World.size_alloc] at h1
  have ht := below2 w (.cells #[.slice A n c, .slice B m d, .int .i64 s] 39) (.cells #[.slice D q z, .bool t] 48)
  cases hp : crewState xs m s sb t
  · have HP := Lib.hid hp
    have HF : Hid (ridesLs xs bs m s sb t = []) := by show _ = _; simp [ridesLs, hp]
    rw [HF.out]
    clear hp hx hy hqq
    go_enter Try.func27, Try.ntmps27
    go_wp2_with fail
    refine (loAsked_any A n c B m d xs s D q z sb t _ (by exact hA.below ht) (by exact hD.below ht) HX.out HQ.out hn hq).mono ?_
    rintro e w1 ⟨rfl, hb⟩
    rw [HP.out]
    replace ht := below_then ht hb ht.size
    clear hb h0 h1
    go_wp2
    go_ret2
    exact BackPost.no ht
  · have HP := Lib.hid hp
    have HF : Hid (ridesLs xs bs m s sb t = ridesAt sb t (crewLists xs bs s)) := by show _ = _; simp [ridesLs, hp]
    obtain ⟨hok, hsl⟩ := crewState_ok hp
    have HOK := Lib.hid hok
    have HSL := Lib.hid hsl
    rw [HF.out]
    clear hp hx hy hqq hok hsl
    go_enter Try.func27, Try.ntmps27
    go_wp2_with fail
    refine (loAsked_any A n c B m d xs s D q z sb t _ (by exact hA.below ht) (by exact hD.below ht) HX.out HQ.out hn hq).mono ?_
    rintro e w1 ⟨rfl, hb⟩
    rw [HP.out]
    replace ht := below_then ht hb ht.size
    obtain ⟨a0, a1, a2⟩ := (h0.below hb).cells3
    obtain ⟨d0, d1, -, -⟩ := (h1.below hb).two
    clear hb h0 h1
    go_wp2_with fail
    refine (loRides_any A n c B m d xs bs s D q z sb t _ (by exact hA.below ht) (by exact hB.below ht) (by exact hD.below ht) HX.out HY.out HQ.out HOK.out HSL.out).mono ?_
    rintro e w2 ⟨A2, c2, rs, rfl, hr, hh, hb⟩
    have HR := Lib.hid hr
    have HH := Lib.hid (hh.raise ht.size)
    have HB := Lib.hid (below_then ht hb ht.size)
    clear hr hh hb a0 a1 a2 d0 d1 ht
    go_wp2
    go_ret2
    exact ⟨A2, rs.length, c2, rs, rfl, HR.out, rfl, HH.out.free, HB.out⟩
theorem rides_le {n : Nat} {xs : List Int} {bs : List Bool} {m : Nat} {s : Int} {sb : List Bool} {t : Bool} : (ridesLs xs bs m s sb t).length ≤ 1048576 ∧ ((ridesLs xs bs m s sb t).map List.length).sum ≤ 1048576 := by
  unfold ridesLs
  cases hp : crewState xs m s sb t
  · simp
  obtain ⟨hok, hsl⟩ := crewState_ok hp
  rw [if_pos rfl]
  have h1 : (ridesAt sb t (crewLists xs bs s)).length ≤ 255 := Nat.le_trans (rides_len _ _ _) (crew_small bs s hok.seven)
  have h2 : ∀ l ∈ ridesAt sb t (crewLists xs bs s), l.length ≤ 7 := fun l hl => by
    have h3 := up_steps (crew_up (List.mem_filter.1 hl).1)
    have := hok.seven
    omega
  have h3 : ∀ (L : List (List Int)), (∀ l ∈ L, l.length ≤ 7) → (L.map List.length).sum ≤ 7 * L.length := fun L => by
    induction L with
    | nil => intro _; simp
    | cons l L ih =>
      intro h
      have := ih fun x hx => h x (List.mem_cons_of_mem _ hx)
      have := h l (List.mem_cons_self ..)
      simp only [List.map_cons, List.sum_cons, List.length_cons]
      omega
  have := h3 _ h2
  omega
end Go.Proofs.Ytoedcieofjcgkaa

namespace Go.Proofs.Ytoedcieofjcgkaa
open Go.RowKit

set_option maxHeartbeats 800000 in
set_option linter.unusedVariables false in
theorem lawRidesOfCrew_big0 (A0 : Option Addr) (n0 c0 : Nat) (x0 : List Int) (A1 : Option Addr) (n1 c1 : Nat) (x1 : List Bool) (k0 : Int) (A2 : Option Addr) (n2 c2 : Nat) (x2 : List Bool) (t0 : Bool) (w : World) (h0 : Holds w A0 (nums x0)) (hx0 : x0.length = n0) (hn0 : n0 ≤ 9223372036854775807) (h1 : Holds w A1 (bits x1)) (hx1 : x1.length = n1) (hn1 : n1 ≤ 9223372036854775807) (h2 : Holds w A2 (bits x2)) (hx2 : x2.length = n2) (hn2 : n2 ≤ 9223372036854775807)  (hbig : 1048576 - (n0 : Int) - (n1 : Int) < 0) :
    Calls Try.prog 5 #[.agg #[.slice A0 n0 c0, .slice A1 n1 c1, .int .i64 k0], .agg #[.slice A2 n2 c2, .bool t0]] w fun e w' => e = .returned (.bool true) ∧ Below w.heap.size w w' := by
  have hb0 := ((Whole.fresh w 36 #[.slice A0 n0 c0, .slice A1 n1 c1, .int .i64 k0]).alloc (.cells #[.slice A2 n2 c2, .bool t0] 44))
  have hb1 := (Whole.fresh (w.alloc (.cells #[.slice A0 n0 c0, .slice A1 n1 c1, .int .i64 k0] 36)) 44 #[.slice A2 n2 c2, .bool t0])
  simp only [World.size_alloc] at hb1
  have ht := below2 w (.cells #[.slice A0 n0 c0, .slice A1 n1 c1, .int .i64 k0] 36) (.cells #[.slice A2 n2 c2, .bool t0] 44)
  have HX0 := Lib.hid hx0
  have HX1 := Lib.hid hx1
  have HX2 := Lib.hid hx2
  clear hx0 hx1 hx2
  obtain ⟨hb0_0, hb0_1, hb0_2⟩ := hb0.cells3
  have hb0_l := hb0.lt
  obtain ⟨hb1_0, hb1_1⟩ := hb1.cells2
  have hb1_l := hb1.lt
  go_enter Try.func5, Try.ntmps5
  go_wp2_with fail
  refine (szCrew_any A0 n0 c0 A1 n1 c1 k0 (1048576) _ (by omega) (by omega) (by omega) (by omega)).mono ?_
  rintro e v1 ⟨rfl, hb⟩
  rw [crewLeft_bad (by omega)]
  have hz1 : w.heap.size + 1 + 1 ≤ v1.heap.size := by have := hb.size; simpa using this
  replace ht := below_then ht hb ht.size
  replace hb0 := hb0.below hb
  replace hb1 := hb1.below hb
  clear hb
  clear hb0_0 hb0_1 hb0_2 hb0_l hb1_0 hb1_1 hb1_l
  go_wp2
  go_ret
  exact ⟨rfl, ht⟩

set_option maxHeartbeats 800000 in
set_option linter.unusedVariables false in
theorem lawRidesOfCrew_big1 (A0 : Option Addr) (n0 c0 : Nat) (x0 : List Int) (A1 : Option Addr) (n1 c1 : Nat) (x1 : List Bool) (k0 : Int) (A2 : Option Addr) (n2 c2 : Nat) (x2 : List Bool) (t0 : Bool) (w : World) (h0 : Holds w A0 (nums x0)) (hx0 : x0.length = n0) (hn0 : n0 ≤ 9223372036854775807) (h1 : Holds w A1 (bits x1)) (hx1 : x1.length = n1) (hn1 : n1 ≤ 9223372036854775807) (h2 : Holds w A2 (bits x2)) (hx2 : x2.length = n2) (hn2 : n2 ≤ 9223372036854775807) (g0 : 0 ≤ 1048576 - (n0 : Int) - (n1 : Int)) (hbig : 1048576 - (n0 : Int) - (n1 : Int) - (n2 : Int) < 0) :
    Calls Try.prog 5 #[.agg #[.slice A0 n0 c0, .slice A1 n1 c1, .int .i64 k0], .agg #[.slice A2 n2 c2, .bool t0]] w fun e w' => e = .returned (.bool true) ∧ Below w.heap.size w w' := by
  have hb0 := ((Whole.fresh w 36 #[.slice A0 n0 c0, .slice A1 n1 c1, .int .i64 k0]).alloc (.cells #[.slice A2 n2 c2, .bool t0] 44))
  have hb1 := (Whole.fresh (w.alloc (.cells #[.slice A0 n0 c0, .slice A1 n1 c1, .int .i64 k0] 36)) 44 #[.slice A2 n2 c2, .bool t0])
  simp only [World.size_alloc] at hb1
  have ht := below2 w (.cells #[.slice A0 n0 c0, .slice A1 n1 c1, .int .i64 k0] 36) (.cells #[.slice A2 n2 c2, .bool t0] 44)
  have HX0 := Lib.hid hx0
  have HX1 := Lib.hid hx1
  have HX2 := Lib.hid hx2
  clear hx0 hx1 hx2
  obtain ⟨hb0_0, hb0_1, hb0_2⟩ := hb0.cells3
  have hb0_l := hb0.lt
  obtain ⟨hb1_0, hb1_1⟩ := hb1.cells2
  have hb1_l := hb1.lt
  go_enter Try.func5, Try.ntmps5
  go_wp2_with fail
  refine (szCrew_any A0 n0 c0 A1 n1 c1 k0 (1048576) _ (by omega) (by omega) (by omega) (by omega)).mono ?_
  rintro e v1 ⟨rfl, hb⟩
  rw [crewLeft_ok (by omega)]
  have hz1 : w.heap.size + 1 + 1 ≤ v1.heap.size := by have := hb.size; simpa using this
  replace ht := below_then ht hb ht.size
  replace hb0 := hb0.below hb
  replace hb1 := hb1.below hb
  clear hb
  clear hb0_0 hb0_1 hb0_2 hb0_l hb1_0 hb1_1 hb1_l
  obtain ⟨hb0_0, hb0_1, hb0_2⟩ := hb0.cells3
  have hb0_l := hb0.lt
  obtain ⟨hb1_0, hb1_1⟩ := hb1.cells2
  have hb1_l := hb1.lt
  go_wp2_with fail
  refine (szState_any A2 n2 c2 t0 (1048576 - (n0 : Int) - (n1 : Int)) _ (by omega) (by omega) (by omega)).mono ?_
  rintro e v2 ⟨rfl, hb⟩
  rw [if_pos (by omega)]
  have hz2 : v1.heap.size ≤ v2.heap.size := by have := hb.size; simpa using this
  replace ht := below_then ht hb ht.size
  replace hb0 := hb0.below hb
  replace hb1 := hb1.below hb
  clear hb
  clear hb0_0 hb0_1 hb0_2 hb0_l hb1_0 hb1_1 hb1_l
  go_wp2
  go_ret
  exact ⟨rfl, ht⟩

set_option maxHeartbeats 12800000 in
set_option maxRecDepth 100000 in
set_option linter.unusedSimpArgs false in
set_option linter.unusedVariables false in
theorem lawRidesOfCrew_small (A0 : Option Addr) (n0 c0 : Nat) (x0 : List Int) (A1 : Option Addr) (n1 c1 : Nat) (x1 : List Bool) (k0 : Int) (A2 : Option Addr) (n2 c2 : Nat) (x2 : List Bool) (t0 : Bool) (w : World) (h0 : Holds w A0 (nums x0)) (hx0 : x0.length = n0) (hn0 : n0 ≤ 9223372036854775807) (h1 : Holds w A1 (bits x1)) (hx1 : x1.length = n1) (hn1 : n1 ≤ 9223372036854775807) (h2 : Holds w A2 (bits x2)) (hx2 : x2.length = n2) (hn2 : n2 ≤ 9223372036854775807) (g0 : 0 ≤ 1048576 - (n0 : Int) - (n1 : Int)) (g1 : 0 ≤ 1048576 - (n0 : Int) - (n1 : Int) - (n2 : Int)) :
    Calls Try.prog 5 #[.agg #[.slice A0 n0 c0, .slice A1 n1 c1, .int .i64 k0], .agg #[.slice A2 n2 c2, .bool t0]] w fun e w' => e = .returned (.bool true) ∧ Below w.heap.size w w' := by
  have hb0 := ((Whole.fresh w 36 #[.slice A0 n0 c0, .slice A1 n1 c1, .int .i64 k0]).alloc (.cells #[.slice A2 n2 c2, .bool t0] 44))
  have hb1 := (Whole.fresh (w.alloc (.cells #[.slice A0 n0 c0, .slice A1 n1 c1, .int .i64 k0] 36)) 44 #[.slice A2 n2 c2, .bool t0])
  simp only [World.size_alloc] at hb1
  have ht := below2 w (.cells #[.slice A0 n0 c0, .slice A1 n1 c1, .int .i64 k0] 36) (.cells #[.slice A2 n2 c2, .bool t0] 44)
  have HX0 := Lib.hid hx0
  have HX1 := Lib.hid hx1
  have HX2 := Lib.hid hx2
  clear hx0 hx1 hx2
  have hlen : (ridesLs x0 x1 n1 k0 x2 t0).length ≤ 1048576 ∧ ((ridesLs x0 x1 n1 k0 x2 t0).map List.length).sum ≤ 1048576 := (rides_le (n := n0))
  obtain ⟨hb0_0, hb0_1, hb0_2⟩ := hb0.cells3
  have hb0_l := hb0.lt
  obtain ⟨hb1_0, hb1_1⟩ := hb1.cells2
  have hb1_l := hb1.lt
  go_enter Try.func5, Try.ntmps5
  -- region 2
  go_wp2_with fail
  refine (szCrew_any A0 n0 c0 A1 n1 c1 k0 (1048576) _ (by omega) (by omega) (by omega) (by omega)).mono ?_
  rintro e v1 ⟨rfl, hb⟩
  rw [crewLeft_ok (by omega)]
  have hz1 : w.heap.size + 1 + 1 ≤ v1.heap.size := by have := hb.size; simpa using this
  replace ht := below_then ht hb ht.size
  replace hb0 := hb0.below hb
  replace hb1 := hb1.below hb
  clear hb
  clear hb0_0 hb0_1 hb0_2 hb0_l hb1_0 hb1_1 hb1_l
  obtain ⟨hb0_0, hb0_1, hb0_2⟩ := hb0.cells3
  have hb0_l := hb0.lt
  obtain ⟨hb1_0, hb1_1⟩ := hb1.cells2
  have hb1_l := hb1.lt
  -- region 5
  go_wp2_with fail
  refine (szState_any A2 n2 c2 t0 (1048576 - (n0 : Int) - (n1 : Int)) _ (by omega) (by omega) (by omega)).mono ?_
  rintro e v2 ⟨rfl, hb⟩
  rw [if_neg (by omega)]
  have hz2 : v1.heap.size ≤ v2.heap.size := by have := hb.size; simpa using this
  replace ht := below_then ht hb ht.size
  replace hb0 := hb0.below hb
  replace hb1 := hb1.below hb
  clear hb
  clear hb0_0 hb0_1 hb0_2 hb0_l hb1_0 hb1_1 hb1_l
  obtain ⟨hb0_0, hb0_1, hb0_2⟩ := hb0.cells3
  have hb0_l := hb0.lt
  obtain ⟨hb1_0, hb1_1⟩ := hb1.cells2
  have hb1_l := hb1.lt
  -- region 8
  clear hb0_0 hb0_1 hb0_2 hb0_l hb1_0 hb1_1 hb1_l
  go_wp2_with fail
  refine wp_region_held_drew (S := (fun w' => w'.cell? ⟨w.heap.size, 0, none⟩ = some (.slice A0 n0 c0) ∧ w'.cell? ⟨w.heap.size, 1, none⟩ = some (.slice A1 n1 c1) ∧ w'.cell? ⟨w.heap.size, 2, none⟩ = some (.int .i64 k0) ∧ w'.cell? ⟨w.heap.size + 1, 0, none⟩ = some (.slice A2 n2 c2) ∧ w'.cell? ⟨w.heap.size + 1, 1, none⟩ = some (.bool t0))) (by kernel_rfl) ⟨hb0.drew.cell 0, hb0.drew.cell 1, hb0.drew.cell 2, hb1.drew.cell 0, hb1.drew.cell 1⟩ (fun hHeld => ?_)
  replace ht := ht.drew
  replace hb0 := hb0.drew
  replace hb1 := hb1.drew
  refine wpAnyH_take (i := 0) (v := ?_) rfl (by kernel_rfl) (by kernel_rfl) (by kernel_rfl) (fun _ _ _ h => h) (Or.inl ⟨rfl, ?_⟩) hHeld ?_
  rotate_left
  · intro w' hS; obtain ⟨s0, s1, s2, s3, s4⟩ := hS; go_simp <;> with_reducible rfl
  simp only [Act.put, List.getElem_toArray, List.getElem_cons_succ, List.getElem_cons_zero, List.setIfInBounds_toArray, List.set_cons_succ, List.set_cons_zero]
  refine wpAnyH_take (i := 2) (v := ?_) rfl (by kernel_rfl) (by kernel_rfl) (by kernel_rfl) (fun _ _ _ h => h) (Or.inl ⟨rfl, ?_⟩) hHeld ?_
  rotate_left
  · intro w' hS; obtain ⟨s0, s1, s2, s3, s4⟩ := hS; go_simp <;> with_reducible rfl
  simp only [Act.put, List.getElem_toArray, List.getElem_cons_succ, List.getElem_cons_zero, List.setIfInBounds_toArray, List.set_cons_succ, List.set_cons_zero]
  refine wpAnyH_ready (rs := [1]) (by kernel_rfl) (by simp) (AllReadyH.cons rfl (fun K hK => ?_) AllReadyH.nil)
  go_simp
  refine (toCrew_own A0 n0 c0 x0 A1 n1 c1 x1 k0 _ (by exact h0.below ht) (by exact h1.below ht) HX0.out HX1.out (by omega) (by omega)).mono ?_
  rintro e v3 ⟨gp0, gp1, rfl, hgp0, hwp0, hgp1, hwp1, hb⟩
  have hz3 : v2.heap.size ≤ v3.heap.size := by have := hb.size; simpa using this
  replace ht := below_then ht hb ht.size
  replace hb0 := hb0.below hb
  replace hb1 := hb1.below hb
  have hgmp0 : v2.heap.size ≤ gp1 ∧ gp1 < v3.heap.size := ⟨by have := hgp0; (try simp at this); omega, hwp1.lt⟩
  have hp0 := Fresh.of_whole (lo := v2.heap.size) (hi := gp1) hwp0 (by simpa using hgp0) hgp1
  have hp1 := Fresh.of_whole (lo := gp1) (hi := v3.heap.size) hwp1 (Nat.le_refl _) hwp1.lt
  clear hgp0 hwp0 hgp1 hwp1
  clear hb
  refine hK.out _ _ ⟨hb0.cell 0, hb0.cell 1, hb0.cell 2, hb1.cell 0, hb1.cell 1⟩ (fun hHeld => ?_)
  clear hK K
  try simp only [Act.put, List.getElem_toArray, List.getElem_cons_succ, List.getElem_cons_zero, List.setIfInBounds_toArray, List.set_cons_succ, List.set_cons_zero]
  refine wpAnyH_ready (rs := [3]) (by kernel_rfl) (by simp) (AllReadyH.cons rfl (fun K hK => ?_) AllReadyH.nil)
  go_simp
  refine (toState_own A2 n2 c2 x2 t0 _ (by exact h2.below ht) HX2.out (by omega)).mono ?_
  rintro e v4 ⟨gp2, rfl, hgp2, hwp2, hb⟩
  have hz4 : v3.heap.size ≤ v4.heap.size := by have := hb.size; simpa using this
  replace ht := below_then ht hb ht.size
  replace hb0 := hb0.below hb
  replace hb1 := hb1.below hb
  replace hp0 := hp0.below hb
  replace hp1 := hp1.below hb
  have hp2 := Fresh.of_whole (lo := v3.heap.size) (hi := v4.heap.size) hwp2 (by simpa using hgp2) hwp2.lt
  clear hgp2 hwp2
  clear hb
  refine hK.out _ _ ⟨hb0.cell 0, hb0.cell 1, hb0.cell 2, hb1.cell 0, hb1.cell 1⟩ (fun hHeld => ?_)
  clear hK K
  try simp only [Act.put, List.getElem_toArray, List.getElem_cons_succ, List.getElem_cons_zero, List.setIfInBounds_toArray, List.set_cons_succ, List.set_cons_zero]
  refine wpAnyH_ready (rs := [4]) (by kernel_rfl) (by simp) (AllReadyH.cons rfl (fun K hK => ?_) AllReadyH.nil)
  go_simp
  refine (specRidesOfCrew_any _ n0 _ _ n1 _ x0 x1 k0 _ n2 _ x2 t0 _ (by exact hp0.holds) (by exact hp1.holds) (by exact hp2.holds) HX0.out HX1.out HX2.out (by omega) (by omega)).mono ?_
  rintro e v5 ⟨B0, m0, q0, rs0, rfl, he0, hl0, hF0, hb⟩
  have hz5 : v4.heap.size ≤ v5.heap.size := by have := hb.size; simpa using this
  replace ht := below_then ht hb ht.size
  replace hb0 := hb0.below hb
  replace hb1 := hb1.below hb
  replace hp0 := hp0.below hb
  replace hp1 := hp1.below hb
  replace hp2 := hp2.below hb
  have HER0 := Lib.hid he0
  have HLR0 := Lib.hid hl0
  have hnr0 : m0 ≤ 1048576 := by have h1 := hl0; have h2 := congrArg List.length he0; rw [rowNums_len] at h2; have h3 := hlen.1; omega
  clear he0 hl0
  replace hF0 := hF0.more (lo' := v4.heap.size) (hi' := v5.heap.size) (by simp) (Nat.le_refl _)
  clear hb
  clear hp0 hp1 hp2
  refine hK.out _ _ ⟨hb0.cell 0, hb0.cell 1, hb0.cell 2, hb1.cell 0, hb1.cell 1⟩ (fun hHeld => ?_)
  clear hK K
  try simp only [Act.put, List.getElem_toArray, List.getElem_cons_succ, List.getElem_cons_zero, List.setIfInBounds_toArray, List.set_cons_succ, List.set_cons_zero]
  refine wpAnyH_take (i := 5) (v := ?_) rfl (by kernel_rfl) (by kernel_rfl) (by kernel_rfl) (fun _ _ _ h => h) (Or.inl ⟨rfl, ?_⟩) hHeld ?_
  rotate_left
  · intro w' hS; obtain ⟨s0, s1, s2, s3, s4⟩ := hS; go_simp <;> with_reducible rfl
  simp only [Act.put, List.getElem_toArray, List.getElem_cons_succ, List.getElem_cons_zero, List.setIfInBounds_toArray, List.set_cons_succ, List.set_cons_zero]
  refine wpAnyH_take (i := 6) (v := ?_) rfl (by kernel_rfl) (by kernel_rfl) (by kernel_rfl) (fun _ _ _ h => h) (Or.inl ⟨rfl, ?_⟩) hHeld ?_
  rotate_left
  · intro w' hS; obtain ⟨s0, s1, s2, s3, s4⟩ := hS; go_simp <;> with_reducible rfl
  simp only [Act.put, List.getElem_toArray, List.getElem_cons_succ, List.getElem_cons_zero, List.setIfInBounds_toArray, List.set_cons_succ, List.set_cons_zero]
  refine wpAnyH_take (i := 7) (v := ?_) rfl (by kernel_rfl) (by kernel_rfl) (by kernel_rfl) (fun _ _ _ h => h) (Or.inl ⟨rfl, ?_⟩) hHeld ?_
  rotate_left
  · intro w' hS; obtain ⟨s0, s1, s2, s3, s4⟩ := hS; go_simp <;> with_reducible rfl
  simp only [Act.put, List.getElem_toArray, List.getElem_cons_succ, List.getElem_cons_zero, List.setIfInBounds_toArray, List.set_cons_succ, List.set_cons_zero]
  refine wpAnyH_take (i := 8) (v := ?_) rfl (by kernel_rfl) (by kernel_rfl) (by kernel_rfl) (fun _ _ _ h => h) (Or.inl ⟨rfl, ?_⟩) hHeld ?_
  rotate_left
  · intro w' hS; obtain ⟨s0, s1, s2, s3, s4⟩ := hS; go_simp <;> with_reducible rfl
  simp only [Act.put, List.getElem_toArray, List.getElem_cons_succ, List.getElem_cons_zero, List.setIfInBounds_toArray, List.set_cons_succ, List.set_cons_zero]
  refine wpAnyH_take (i := 9) (v := ?_) rfl (by kernel_rfl) (by kernel_rfl) (by kernel_rfl) (fun _ _ _ h => h) (Or.inl ⟨rfl, ?_⟩) hHeld ?_
  rotate_left
  · intro w' hS; obtain ⟨s0, s1, s2, s3, s4⟩ := hS; go_simp <;> with_reducible rfl
  simp only [Act.put, List.getElem_toArray, List.getElem_cons_succ, List.getElem_cons_zero, List.setIfInBounds_toArray, List.set_cons_succ, List.set_cons_zero]
  refine wpAnyH_done (by kernel_rfl) ?_ _
  clear hHeld
  obtain ⟨hb0_0, hb0_1, hb0_2⟩ := hb0.cells3
  have hb0_l := hb0.lt
  obtain ⟨hb1_0, hb1_1⟩ := hb1.cells2
  have hb1_l := hb1.lt
  -- region 9
  go_wp2_with fail
  refine (toCrew_own A0 n0 c0 x0 A1 n1 c1 x1 k0 _ (by exact h0.below ht) (by exact h1.below ht) HX0.out HX1.out (by omega) (by omega)).mono ?_
  rintro e v6 ⟨gx0, gx1, rfl, hgx0, hwx0, hgx1, hwx1, hb⟩
  have hz6 : v5.heap.size ≤ v6.heap.size := by have := hb.size; simpa using this
  replace ht := below_then ht hb ht.size
  replace hb0 := hb0.below hb
  replace hb1 := hb1.below hb
  replace hF0 := hF0.below hb
  have hgmx0 : v5.heap.size ≤ gx1 ∧ gx1 < v6.heap.size := ⟨by have := hgx0; (try simp at this); omega, hwx1.lt⟩
  have hx0 := Fresh.of_whole (lo := v5.heap.size) (hi := gx1) hwx0 (by simpa using hgx0) hgx1
  have hx1 := Fresh.of_whole (lo := gx1) (hi := v6.heap.size) hwx1 (Nat.le_refl _) hwx1.lt
  clear hgx0 hwx0 hgx1 hwx1
  clear hb
  have hx90 := Whole.fresh v6 39 #[.slice (some ⟨gx0, 0, none⟩) n0 n0, .slice (some ⟨gx1, 0, none⟩) n1 n1, .int .i64 k0]
  replace ht := ht.alloc ht.size (.cells #[.slice (some ⟨gx0, 0, none⟩) n0 n0, .slice (some ⟨gx1, 0, none⟩) n1 n1, .int .i64 k0] 39)
  replace hb0 := hb0.alloc (.cells #[.slice (some ⟨gx0, 0, none⟩) n0 n0, .slice (some ⟨gx1, 0, none⟩) n1 n1, .int .i64 k0] 39)
  replace hb1 := hb1.alloc (.cells #[.slice (some ⟨gx0, 0, none⟩) n0 n0, .slice (some ⟨gx1, 0, none⟩) n1 n1, .int .i64 k0] 39)
  replace hF0 := hF0.alloc (.cells #[.slice (some ⟨gx0, 0, none⟩) n0 n0, .slice (some ⟨gx1, 0, none⟩) n1 n1, .int .i64 k0] 39)
  replace hx0 := hx0.alloc (.cells #[.slice (some ⟨gx0, 0, none⟩) n0 n0, .slice (some ⟨gx1, 0, none⟩) n1 n1, .int .i64 k0] 39)
  replace hx1 := hx1.alloc (.cells #[.slice (some ⟨gx0, 0, none⟩) n0 n0, .slice (some ⟨gx1, 0, none⟩) n1 n1, .int .i64 k0] 39)
  clear hb0_0 hb0_1 hb0_2 hb0_l hb1_0 hb1_1 hb1_l
  obtain ⟨hb0_0, hb0_1, hb0_2⟩ := hb0.cells3
  have hb0_l := hb0.lt
  obtain ⟨hb1_0, hb1_1⟩ := hb1.cells2
  have hb1_l := hb1.lt
  obtain ⟨hx90_0, hx90_1, hx90_2⟩ := hx90.cells3
  have hx90_l := hx90.lt
  -- region 10
  go_wp2_with fail
  refine (toState_own A2 n2 c2 x2 t0 _ (by exact h2.below ht) HX2.out (by omega)).mono ?_
  rintro e v7 ⟨gx2, rfl, hgx2, hwx2, hb⟩
  have hz7 : v6.heap.size + 1 ≤ v7.heap.size := by have := hb.size; simpa using this
  replace ht := below_then ht hb ht.size
  replace hb0 := hb0.below hb
  replace hb1 := hb1.below hb
  replace hF0 := hF0.below hb
  replace hx0 := hx0.below hb
  replace hx1 := hx1.below hb
  replace hx90 := hx90.below hb
  have hx2 := Fresh.of_whole (lo := v6.heap.size + 1) (hi := v7.heap.size) hwx2 (by simpa using hgx2) hwx2.lt
  clear hgx2 hwx2
  clear hb
  have hx91 := Whole.fresh v7 48 #[.slice (some ⟨gx2, 0, none⟩) n2 n2, .bool t0]
  replace ht := ht.alloc ht.size (.cells #[.slice (some ⟨gx2, 0, none⟩) n2 n2, .bool t0] 48)
  replace hb0 := hb0.alloc (.cells #[.slice (some ⟨gx2, 0, none⟩) n2 n2, .bool t0] 48)
  replace hb1 := hb1.alloc (.cells #[.slice (some ⟨gx2, 0, none⟩) n2 n2, .bool t0] 48)
  replace hF0 := hF0.alloc (.cells #[.slice (some ⟨gx2, 0, none⟩) n2 n2, .bool t0] 48)
  replace hx0 := hx0.alloc (.cells #[.slice (some ⟨gx2, 0, none⟩) n2 n2, .bool t0] 48)
  replace hx1 := hx1.alloc (.cells #[.slice (some ⟨gx2, 0, none⟩) n2 n2, .bool t0] 48)
  replace hx90 := hx90.alloc (.cells #[.slice (some ⟨gx2, 0, none⟩) n2 n2, .bool t0] 48)
  replace hx2 := hx2.alloc (.cells #[.slice (some ⟨gx2, 0, none⟩) n2 n2, .bool t0] 48)
  clear hb0_0 hb0_1 hb0_2 hb0_l hb1_0 hb1_1 hb1_l hx90_0 hx90_1 hx90_2 hx90_l
  obtain ⟨hb0_0, hb0_1, hb0_2⟩ := hb0.cells3
  have hb0_l := hb0.lt
  obtain ⟨hb1_0, hb1_1⟩ := hb1.cells2
  have hb1_l := hb1.lt
  obtain ⟨hx90_0, hx90_1, hx90_2⟩ := hx90.cells3
  have hx90_l := hx90.lt
  obtain ⟨hx91_0, hx91_1⟩ := hx91.cells2
  have hx91_l := hx91.lt
  -- region 11
  go_wp2_with fail
  refine (implRidesOfCrew_any _ n0 _ n1 _ x0 x1 k0 _ n2 _ x2 t0 _ (by exact hx0.holds) (by exact hx1.holds) (by exact hx2.holds) HX0.out HX1.out HX2.out (by omega) (by omega)).mono ?_
  rintro e v8 ⟨B1, m1, q1, rs1, rfl, he1, hl1, hF1, hb⟩
  have hz8 : v7.heap.size + 1 ≤ v8.heap.size := by have := hb.size; simpa using this
  replace ht := below_then ht hb ht.size
  replace hb0 := hb0.below hb
  replace hb1 := hb1.below hb
  replace hF0 := hF0.below hb
  replace hx0 := hx0.below hb
  replace hx1 := hx1.below hb
  replace hx90 := hx90.below hb
  replace hx2 := hx2.below hb
  replace hx91 := hx91.below hb
  have HER1 := Lib.hid he1
  have HLR1 := Lib.hid hl1
  have hnr1 : m1 ≤ 1048576 := by have h1 := hl1; have h2 := congrArg List.length he1; rw [rowNums_len] at h2; have h3 := hlen.1; omega
  clear he1 hl1
  replace hF1 := hF1.more (lo' := v7.heap.size + 1) (hi' := v8.heap.size) (by simp) (Nat.le_refl _)
  clear hb
  clear hb0_0 hb0_1 hb0_2 hb0_l hb1_0 hb1_1 hb1_l hx90_0 hx90_1 hx90_2 hx90_l hx91_0 hx91_1 hx91_l
  obtain ⟨hb0_0, hb0_1, hb0_2⟩ := hb0.cells3
  have hb0_l := hb0.lt
  obtain ⟨hb1_0, hb1_1⟩ := hb1.cells2
  have hb1_l := hb1.lt
  obtain ⟨hx90_0, hx90_1, hx90_2⟩ := hx90.cells3
  have hx90_l := hx90.lt
  obtain ⟨hx91_0, hx91_1⟩ := hx91.cells2
  have hx91_l := hx91.lt
  -- region 12
  go_wp2_with fail
  refine (eqIntSS_yes B1 B0 m1 m0 q1 q0 rs1 rs0 _ (by exact hF1.grid) (by exact hF0.grid) (by rw [HER1.out, HER0.out]) HLR1.out HLR0.out (by omega)).mono ?_
  rintro e v9 ⟨rfl, hb⟩
  have hz9 : v8.heap.size ≤ v9.heap.size := by have := hb.size; simpa using this
  replace ht := below_then ht hb ht.size
  replace hb0 := hb0.below hb
  replace hb1 := hb1.below hb
  replace hF0 := hF0.below hb
  replace hx0 := hx0.below hb
  replace hx1 := hx1.below hb
  replace hx90 := hx90.below hb
  replace hx2 := hx2.below hb
  replace hx91 := hx91.below hb
  replace hF1 := hF1.below hb
  clear hb
  clear hb0_0 hb0_1 hb0_2 hb0_l hb1_0 hb1_1 hb1_l hx90_0 hx90_1 hx90_2 hx90_l hx91_0 hx91_1 hx91_l
  obtain ⟨hb0_0, hb0_1, hb0_2⟩ := hb0.cells3
  have hb0_l := hb0.lt
  obtain ⟨hb1_0, hb1_1⟩ := hb1.cells2
  have hb1_l := hb1.lt
  obtain ⟨hx90_0, hx90_1, hx90_2⟩ := hx90.cells3
  have hx90_l := hx90.lt
  obtain ⟨hx91_0, hx91_1⟩ := hx91.cells2
  have hx91_l := hx91.lt
  -- region 14
  clear hb0_0 hb0_1 hb0_2 hb0_l hb1_0 hb1_1 hb1_l hx90_0 hx90_1 hx90_2 hx90_l hx91_0 hx91_1 hx91_l
  go_wp2_with fail
  refine wp_region_held_drew (S := (fun w' => w'.cell? ⟨w.heap.size, 0, none⟩ = some (.slice A0 n0 c0) ∧ w'.cell? ⟨w.heap.size, 1, none⟩ = some (.slice A1 n1 c1) ∧ w'.cell? ⟨w.heap.size, 2, none⟩ = some (.int .i64 k0) ∧ w'.cell? ⟨w.heap.size + 1, 0, none⟩ = some (.slice A2 n2 c2) ∧ w'.cell? ⟨w.heap.size + 1, 1, none⟩ = some (.bool t0) ∧ w'.cell? ⟨v6.heap.size, 0, none⟩ = some (.slice (some ⟨gx0, 0, none⟩) n0 n0) ∧ w'.cell? ⟨v6.heap.size, 1, none⟩ = some (.slice (some ⟨gx1, 0, none⟩) n1 n1) ∧ w'.cell? ⟨v6.heap.size, 2, none⟩ = some (.int .i64 k0) ∧ w'.cell? ⟨v7.heap.size, 0, none⟩ = some (.slice (some ⟨gx2, 0, none⟩) n2 n2) ∧ w'.cell? ⟨v7.heap.size, 1, none⟩ = some (.bool t0))) (by kernel_rfl) ⟨hb0.drew.cell 0, hb0.drew.cell 1, hb0.drew.cell 2, hb1.drew.cell 0, hb1.drew.cell 1, hx90.drew.cell 0, hx90.drew.cell 1, hx90.drew.cell 2, hx91.drew.cell 0, hx91.drew.cell 1⟩ (fun hHeld => ?_)
  replace ht := ht.drew
  replace hb0 := hb0.drew
  replace hb1 := hb1.drew
  replace hF0 := hF0.drew
  replace hx0 := hx0.drew
  replace hx1 := hx1.drew
  replace hx90 := hx90.drew
  replace hx2 := hx2.drew
  replace hx91 := hx91.drew
  replace hF1 := hF1.drew
  refine wpAnyH_take (i := 0) (v := ?_) rfl (by kernel_rfl) (by kernel_rfl) (by kernel_rfl) (fun _ _ _ h => h) (Or.inl ⟨rfl, ?_⟩) hHeld ?_
  rotate_left
  · intro w' hS; obtain ⟨s0, s1, s2, s3, s4, s5, s6, s7, s8, s9⟩ := hS; go_simp <;> with_reducible rfl
  simp only [Act.put, List.getElem_toArray, List.getElem_cons_succ, List.getElem_cons_zero, List.setIfInBounds_toArray, List.set_cons_succ, List.set_cons_zero]
  refine wpAnyH_take (i := 1) (v := ?_) rfl (by kernel_rfl) (by kernel_rfl) (by kernel_rfl) (fun _ _ _ h => h) (Or.inl ⟨rfl, ?_⟩) hHeld ?_
  rotate_left
  · intro w' hS; obtain ⟨s0, s1, s2, s3, s4, s5, s6, s7, s8, s9⟩ := hS; go_simp <;> with_reducible rfl
  simp only [Act.put, List.getElem_toArray, List.getElem_cons_succ, List.getElem_cons_zero, List.setIfInBounds_toArray, List.set_cons_succ, List.set_cons_zero]
  refine wpAnyH_ready (rs := [2]) (by kernel_rfl) (by simp) (AllReadyH.cons rfl (fun K hK => ?_) AllReadyH.nil)
  go_simp
  refine (toCrew_own A0 n0 c0 x0 A1 n1 c1 x1 k0 _ (by exact h0.below ht) (by exact h1.below ht) HX0.out HX1.out (by omega) (by omega)).mono ?_
  rintro e v10 ⟨gy0, gy1, rfl, hgy0, hwy0, hgy1, hwy1, hb⟩
  have hz10 : v9.heap.size ≤ v10.heap.size := by have := hb.size; simpa using this
  replace ht := below_then ht hb ht.size
  replace hb0 := hb0.below hb
  replace hb1 := hb1.below hb
  replace hF0 := hF0.below hb
  replace hx0 := hx0.below hb
  replace hx1 := hx1.below hb
  replace hx90 := hx90.below hb
  replace hx2 := hx2.below hb
  replace hx91 := hx91.below hb
  replace hF1 := hF1.below hb
  have hgmy0 : v9.heap.size ≤ gy1 ∧ gy1 < v10.heap.size := ⟨by have := hgy0; (try simp at this); omega, hwy1.lt⟩
  have hy0 := Fresh.of_whole (lo := v9.heap.size) (hi := gy1) hwy0 (by simpa using hgy0) hgy1
  have hy1 := Fresh.of_whole (lo := gy1) (hi := v10.heap.size) hwy1 (Nat.le_refl _) hwy1.lt
  clear hgy0 hwy0 hgy1 hwy1
  clear hb
  refine hK.out _ _ ⟨hb0.cell 0, hb0.cell 1, hb0.cell 2, hb1.cell 0, hb1.cell 1, hx90.cell 0, hx90.cell 1, hx90.cell 2, hx91.cell 0, hx91.cell 1⟩ (fun hHeld => ?_)
  clear hK K
  try simp only [Act.put, List.getElem_toArray, List.getElem_cons_succ, List.getElem_cons_zero, List.setIfInBounds_toArray, List.set_cons_succ, List.set_cons_zero]
  refine wpAnyH_ready (rs := [3]) (by kernel_rfl) (by simp) (AllReadyH.cons rfl (fun K hK => ?_) AllReadyH.nil)
  go_simp
  refine (eqCrew_yes _ _ n0 _ _ x0 _ _ n1 _ _ x1 k0 _ (by exact hx0.holds) (by exact hy0.holds) (by exact hx1.holds) (by exact hy1.holds) HX0.out HX1.out (by omega) (by omega)).mono ?_
  rintro e v11 ⟨rfl, hb⟩
  have hz11 : v10.heap.size ≤ v11.heap.size := by have := hb.size; simpa using this
  replace ht := below_then ht hb ht.size
  replace hb0 := hb0.below hb
  replace hb1 := hb1.below hb
  replace hF0 := hF0.below hb
  replace hx0 := hx0.below hb
  replace hx1 := hx1.below hb
  replace hx90 := hx90.below hb
  replace hx2 := hx2.below hb
  replace hx91 := hx91.below hb
  replace hF1 := hF1.below hb
  replace hy0 := hy0.below hb
  replace hy1 := hy1.below hb
  clear hb
  clear hy0 hy1
  refine hK.out _ _ ⟨hb0.cell 0, hb0.cell 1, hb0.cell 2, hb1.cell 0, hb1.cell 1, hx90.cell 0, hx90.cell 1, hx90.cell 2, hx91.cell 0, hx91.cell 1⟩ (fun hHeld => ?_)
  clear hK K
  try simp only [Act.put, List.getElem_toArray, List.getElem_cons_succ, List.getElem_cons_zero, List.setIfInBounds_toArray, List.set_cons_succ, List.set_cons_zero]
  refine wpAnyH_take (i := 4) (v := ?_) rfl (by kernel_rfl) (by kernel_rfl) (by kernel_rfl) (fun _ _ _ h => h) (Or.inl ⟨rfl, ?_⟩) hHeld ?_
  rotate_left
  · intro w' hS; obtain ⟨s0, s1, s2, s3, s4, s5, s6, s7, s8, s9⟩ := hS; go_simp <;> with_reducible rfl
  simp only [Act.put, List.getElem_toArray, List.getElem_cons_succ, List.getElem_cons_zero, List.setIfInBounds_toArray, List.set_cons_succ, List.set_cons_zero]
  refine wpAnyH_done (by kernel_rfl) ?_ _
  clear hHeld
  obtain ⟨hb0_0, hb0_1, hb0_2⟩ := hb0.cells3
  have hb0_l := hb0.lt
  obtain ⟨hb1_0, hb1_1⟩ := hb1.cells2
  have hb1_l := hb1.lt
  obtain ⟨hx90_0, hx90_1, hx90_2⟩ := hx90.cells3
  have hx90_l := hx90.lt
  obtain ⟨hx91_0, hx91_1⟩ := hx91.cells2
  have hx91_l := hx91.lt
  -- region 16
  clear hb0_0 hb0_1 hb0_2 hb0_l hb1_0 hb1_1 hb1_l hx90_0 hx90_1 hx90_2 hx90_l hx91_0 hx91_1 hx91_l
  go_wp2_with fail
  refine wp_region_held_drew (S := (fun w' => w'.cell? ⟨w.heap.size, 0, none⟩ = some (.slice A0 n0 c0) ∧ w'.cell? ⟨w.heap.size, 1, none⟩ = some (.slice A1 n1 c1) ∧ w'.cell? ⟨w.heap.size, 2, none⟩ = some (.int .i64 k0) ∧ w'.cell? ⟨w.heap.size + 1, 0, none⟩ = some (.slice A2 n2 c2) ∧ w'.cell? ⟨w.heap.size + 1, 1, none⟩ = some (.bool t0) ∧ w'.cell? ⟨v6.heap.size, 0, none⟩ = some (.slice (some ⟨gx0, 0, none⟩) n0 n0) ∧ w'.cell? ⟨v6.heap.size, 1, none⟩ = some (.slice (some ⟨gx1, 0, none⟩) n1 n1) ∧ w'.cell? ⟨v6.heap.size, 2, none⟩ = some (.int .i64 k0) ∧ w'.cell? ⟨v7.heap.size, 0, none⟩ = some (.slice (some ⟨gx2, 0, none⟩) n2 n2) ∧ w'.cell? ⟨v7.heap.size, 1, none⟩ = some (.bool t0))) (by kernel_rfl) ⟨hb0.drew.cell 0, hb0.drew.cell 1, hb0.drew.cell 2, hb1.drew.cell 0, hb1.drew.cell 1, hx90.drew.cell 0, hx90.drew.cell 1, hx90.drew.cell 2, hx91.drew.cell 0, hx91.drew.cell 1⟩ (fun hHeld => ?_)
  replace ht := ht.drew
  replace hb0 := hb0.drew
  replace hb1 := hb1.drew
  replace hF0 := hF0.drew
  replace hx0 := hx0.drew
  replace hx1 := hx1.drew
  replace hx90 := hx90.drew
  replace hx2 := hx2.drew
  replace hx91 := hx91.drew
  replace hF1 := hF1.drew
  refine wpAnyH_take (i := 0) (v := ?_) rfl (by kernel_rfl) (by kernel_rfl) (by kernel_rfl) (fun _ _ _ h => h) (Or.inl ⟨rfl, ?_⟩) hHeld ?_
  rotate_left
  · intro w' hS; obtain ⟨s0, s1, s2, s3, s4, s5, s6, s7, s8, s9⟩ := hS; go_simp <;> with_reducible rfl
  simp only [Act.put, List.getElem_toArray, List.getElem_cons_succ, List.getElem_cons_zero, List.setIfInBounds_toArray, List.set_cons_succ, List.set_cons_zero]
  refine wpAnyH_take (i := 1) (v := ?_) rfl (by kernel_rfl) (by kernel_rfl) (by kernel_rfl) (fun _ _ _ h => h) (Or.inl ⟨rfl, ?_⟩) hHeld ?_
  rotate_left
  · intro w' hS; obtain ⟨s0, s1, s2, s3, s4, s5, s6, s7, s8, s9⟩ := hS; go_simp <;> with_reducible rfl
  simp only [Act.put, List.getElem_toArray, List.getElem_cons_succ, List.getElem_cons_zero, List.setIfInBounds_toArray, List.set_cons_succ, List.set_cons_zero]
  refine wpAnyH_ready (rs := [2]) (by kernel_rfl) (by simp) (AllReadyH.cons rfl (fun K hK => ?_) AllReadyH.nil)
  go_simp
  refine (toState_own A2 n2 c2 x2 t0 _ (by exact h2.below ht) HX2.out (by omega)).mono ?_
  rintro e v12 ⟨gy2, rfl, hgy2, hwy2, hb⟩
  have hz12 : v11.heap.size ≤ v12.heap.size := by have := hb.size; simpa using this
  replace ht := below_then ht hb ht.size
  replace hb0 := hb0.below hb
  replace hb1 := hb1.below hb
  replace hF0 := hF0.below hb
  replace hx0 := hx0.below hb
  replace hx1 := hx1.below hb
  replace hx90 := hx90.below hb
  replace hx2 := hx2.below hb
  replace hx91 := hx91.below hb
  replace hF1 := hF1.below hb
  have hy2 := Fresh.of_whole (lo := v11.heap.size) (hi := v12.heap.size) hwy2 (by simpa using hgy2) hwy2.lt
  clear hgy2 hwy2
  clear hb
  refine hK.out _ _ ⟨hb0.cell 0, hb0.cell 1, hb0.cell 2, hb1.cell 0, hb1.cell 1, hx90.cell 0, hx90.cell 1, hx90.cell 2, hx91.cell 0, hx91.cell 1⟩ (fun hHeld => ?_)
  clear hK K
  try simp only [Act.put, List.getElem_toArray, List.getElem_cons_succ, List.getElem_cons_zero, List.setIfInBounds_toArray, List.set_cons_succ, List.set_cons_zero]
  refine wpAnyH_ready (rs := [3]) (by kernel_rfl) (by simp) (AllReadyH.cons rfl (fun K hK => ?_) AllReadyH.nil)
  go_simp
  refine (eqState_yes _ _ n2 _ _ x2 t0 _ (by exact hx2.holds) (by exact hy2.holds) HX2.out (by omega)).mono ?_
  rintro e v13 ⟨rfl, hb⟩
  have hz13 : v12.heap.size ≤ v13.heap.size := by have := hb.size; simpa using this
  replace ht := below_then ht hb ht.size
  replace hb0 := hb0.below hb
  replace hb1 := hb1.below hb
  replace hF0 := hF0.below hb
  replace hx0 := hx0.below hb
  replace hx1 := hx1.below hb
  replace hx90 := hx90.below hb
  replace hx2 := hx2.below hb
  replace hx91 := hx91.below hb
  replace hF1 := hF1.below hb
  replace hy2 := hy2.below hb
  clear hb
  clear hy2
  refine hK.out _ _ ⟨hb0.cell 0, hb0.cell 1, hb0.cell 2, hb1.cell 0, hb1.cell 1, hx90.cell 0, hx90.cell 1, hx90.cell 2, hx91.cell 0, hx91.cell 1⟩ (fun hHeld => ?_)
  clear hK K
  try simp only [Act.put, List.getElem_toArray, List.getElem_cons_succ, List.getElem_cons_zero, List.setIfInBounds_toArray, List.set_cons_succ, List.set_cons_zero]
  refine wpAnyH_take (i := 4) (v := ?_) rfl (by kernel_rfl) (by kernel_rfl) (by kernel_rfl) (fun _ _ _ h => h) (Or.inl ⟨rfl, ?_⟩) hHeld ?_
  rotate_left
  · intro w' hS; obtain ⟨s0, s1, s2, s3, s4, s5, s6, s7, s8, s9⟩ := hS; go_simp <;> with_reducible rfl
  simp only [Act.put, List.getElem_toArray, List.getElem_cons_succ, List.getElem_cons_zero, List.setIfInBounds_toArray, List.set_cons_succ, List.set_cons_zero]
  refine wpAnyH_done (by kernel_rfl) ?_ _
  clear hHeld
  obtain ⟨hb0_0, hb0_1, hb0_2⟩ := hb0.cells3
  have hb0_l := hb0.lt
  obtain ⟨hb1_0, hb1_1⟩ := hb1.cells2
  have hb1_l := hb1.lt
  obtain ⟨hx90_0, hx90_1, hx90_2⟩ := hx90.cells3
  have hx90_l := hx90.lt
  obtain ⟨hx91_0, hx91_1⟩ := hx91.cells2
  have hx91_l := hx91.lt
  -- region 19
  go_wp2_with fail
  refine (markCrew_any (some ⟨gx0, 0, none⟩) n0 n0 _ _ _ _ (some ⟨gx1, 0, none⟩) n1 n1 _ k0 (1) _ hx0 hx1 (by rw [nums_len]; exact HX0.out) (by rw [bits_len]; exact HX1.out) (by omega) (by omega) (by omega) (by omega) (by omega) (by omega) (by omega)).mono ?_
  rintro e v14 ⟨rfl, hs, -⟩
  have hsz := ht.size
  replace ht := hs.below ht (by omega) hsz
  replace hb0 := hs.whole hb0 (by omega)
  replace hb1 := hs.whole hb1 (by omega)
  replace hF0 := hs.freeGrid hF0 (by omega)
  replace hx2 := hs.fresh hx2 (by omega)
  replace hx91 := hs.whole hx91 (by omega)
  replace hF1 := hs.freeGrid hF1 (by omega)
  clear hs hsz hx0 hx1 hx90
  have hk_1 : (0 : Int) ≤ 1 + (n0 : Int) + (n1 : Int) := by omega
  clear hb0_0 hb0_1 hb0_2 hb0_l hb1_0 hb1_1 hb1_l hx90_0 hx90_1 hx90_2 hx90_l hx91_0 hx91_1 hx91_l
  obtain ⟨hb0_0, hb0_1, hb0_2⟩ := hb0.cells3
  have hb0_l := hb0.lt
  obtain ⟨hb1_0, hb1_1⟩ := hb1.cells2
  have hb1_l := hb1.lt
  obtain ⟨hx91_0, hx91_1⟩ := hx91.cells2
  have hx91_l := hx91.lt
  -- region 20
  go_wp2_with fail
  refine (markState_any (some ⟨gx2, 0, none⟩) n2 n2 _ _ _ t0 (1 + (n0 : Int) + (n1 : Int)) _ hx2 (by rw [bits_len]; exact HX2.out) (by omega) (by omega) (by omega)).mono ?_
  rintro e v15 ⟨rfl, hs, -⟩
  have hsz := ht.size
  replace ht := hs.below ht (by omega) hsz
  replace hb0 := hs.whole hb0 (by omega)
  replace hb1 := hs.whole hb1 (by omega)
  replace hF0 := hs.freeGrid hF0 (by omega)
  replace hF1 := hs.freeGrid hF1 (by omega)
  clear hs hsz hx2 hx91
  have hk_2 : (0 : Int) ≤ 1 + (n0 : Int) + (n1 : Int) + (n2 : Int) := by omega
  clear hb0_0 hb0_1 hb0_2 hb0_l hb1_0 hb1_1 hb1_l hx91_0 hx91_1 hx91_l
  obtain ⟨hb0_0, hb0_1, hb0_2⟩ := hb0.cells3
  have hb0_l := hb0.lt
  obtain ⟨hb1_0, hb1_1⟩ := hb1.cells2
  have hb1_l := hb1.lt
  -- region 21
  go_wp2_with fail
  refine (eqIntSS_yes B1 B0 m1 m0 q1 q0 rs1 rs0 _ (by exact hF1.grid) (by exact hF0.grid) (by rw [HER1.out, HER0.out]) HLR1.out HLR0.out (by omega)).mono ?_
  rintro e v16 ⟨rfl, hb⟩
  have hz16 : v15.heap.size ≤ v16.heap.size := by have := hb.size; simpa using this
  replace ht := below_then ht hb ht.size
  replace hb0 := hb0.below hb
  replace hb1 := hb1.below hb
  replace hF0 := hF0.below hb
  replace hF1 := hF1.below hb
  clear hb
  clear hb0_0 hb0_1 hb0_2 hb0_l hb1_0 hb1_1 hb1_l
  obtain ⟨hb0_0, hb0_1, hb0_2⟩ := hb0.cells3
  have hb0_l := hb0.lt
  obtain ⟨hb1_0, hb1_1⟩ := hb1.cells2
  have hb1_l := hb1.lt
  -- region 24
  go_wp2_with fail
  have hprt : part rs1 rs1.length ≤ 1048576 := by have h1 := part_lens hF1.grid; have h2 := hlen.2; rw [HER1.out] at h1; omega
  refine (markIntSS_any B1 m1 q1 _ _ rs1 1 _ hF1 HLR1.out (by omega) (by omega) hnr1 hprt).mono ?_
  rintro e v17 ⟨rfl, hs, hM⟩
  have hsz := ht.size
  replace ht := hs.below ht (by omega) hsz
  replace hb0 := hs.whole hb0 (by omega)
  replace hb1 := hs.whole hb1 (by omega)
  replace hF0 := hs.freeGrid hF0 (by omega)
  clear hs hF1 hsz
  clear hb0_0 hb0_1 hb0_2 hb0_l hb1_0 hb1_1 hb1_l
  obtain ⟨hb0_0, hb0_1, hb0_2⟩ := hb0.cells3
  have hb0_l := hb0.lt
  obtain ⟨hb1_0, hb1_1⟩ := hb1.cells2
  have hb1_l := hb1.lt
  -- region 26
  go_wp2_with fail
  refine (heldIntSS_any B1 m1 q1 rs1 1 _ (by exact hM.grid) HLR1.out (by omega) (by omega) hnr1 hprt).mono ?_
  rintro e v18 ⟨rfl, hb⟩
  have hz18 : v17.heap.size ≤ v18.heap.size := by have := hb.size; simpa using this
  replace ht := below_then ht hb ht.size
  replace hb0 := hb0.below hb
  replace hb1 := hb1.below hb
  replace hF0 := hF0.below hb
  replace hM := hM.below hb
  clear hb
  have hm0 : (0 : Int) ≤ 1 + ((part rs1 rs1.length : Nat) : Int) := by omega
  clear hb0_0 hb0_1 hb0_2 hb0_l hb1_0 hb1_1 hb1_l
  obtain ⟨hb0_0, hb0_1, hb0_2⟩ := hb0.cells3
  have hb0_l := hb0.lt
  obtain ⟨hb1_0, hb1_1⟩ := hb1.cells2
  have hb1_l := hb1.lt
  -- region 31
  clear hb0_0 hb0_1 hb0_2 hb0_l hb1_0 hb1_1 hb1_l
  go_wp2_with fail
  refine wp_region_held_drew (S := (fun w' => w'.cell? ⟨w.heap.size, 0, none⟩ = some (.slice A0 n0 c0) ∧ w'.cell? ⟨w.heap.size, 1, none⟩ = some (.slice A1 n1 c1) ∧ w'.cell? ⟨w.heap.size, 2, none⟩ = some (.int .i64 k0) ∧ w'.cell? ⟨w.heap.size + 1, 0, none⟩ = some (.slice A2 n2 c2) ∧ w'.cell? ⟨w.heap.size + 1, 1, none⟩ = some (.bool t0))) (by kernel_rfl) ⟨hb0.drew.cell 0, hb0.drew.cell 1, hb0.drew.cell 2, hb1.drew.cell 0, hb1.drew.cell 1⟩ (fun hHeld => ?_)
  replace ht := ht.drew
  replace hb0 := hb0.drew
  replace hb1 := hb1.drew
  replace hF0 := hF0.drew
  replace hM := hM.drew
  refine wpAnyH_take (i := 0) (v := ?_) rfl (by kernel_rfl) (by kernel_rfl) (by kernel_rfl) (fun _ _ _ h => h) (Or.inl ⟨rfl, ?_⟩) hHeld ?_
  rotate_left
  · intro w' hS; obtain ⟨s0, s1, s2, s3, s4⟩ := hS; go_simp <;> with_reducible rfl
  simp only [Act.put, List.getElem_toArray, List.getElem_cons_succ, List.getElem_cons_zero, List.setIfInBounds_toArray, List.set_cons_succ, List.set_cons_zero]
  refine wpAnyH_take (i := 2) (v := ?_) rfl (by kernel_rfl) (by kernel_rfl) (by kernel_rfl) (fun _ _ _ h => h) (Or.inl ⟨rfl, ?_⟩) hHeld ?_
  rotate_left
  · intro w' hS; obtain ⟨s0, s1, s2, s3, s4⟩ := hS; go_simp <;> with_reducible rfl
  simp only [Act.put, List.getElem_toArray, List.getElem_cons_succ, List.getElem_cons_zero, List.setIfInBounds_toArray, List.set_cons_succ, List.set_cons_zero]
  refine wpAnyH_ready (rs := [1]) (by kernel_rfl) (by simp) (AllReadyH.cons rfl (fun K hK => ?_) AllReadyH.nil)
  go_simp
  refine (toCrew_own A0 n0 c0 x0 A1 n1 c1 x1 k0 _ (by exact h0.below ht) (by exact h1.below ht) HX0.out HX1.out (by omega) (by omega)).mono ?_
  rintro e v19 ⟨gr0, gr1, rfl, hgr0, hwr0, hgr1, hwr1, hb⟩
  have hz19 : v18.heap.size ≤ v19.heap.size := by have := hb.size; simpa using this
  replace ht := below_then ht hb ht.size
  replace hb0 := hb0.below hb
  replace hb1 := hb1.below hb
  replace hF0 := hF0.below hb
  replace hM := hM.below hb
  have hgmr0 : v18.heap.size ≤ gr1 ∧ gr1 < v19.heap.size := ⟨by have := hgr0; (try simp at this); omega, hwr1.lt⟩
  have hr0 := Fresh.of_whole (lo := v18.heap.size) (hi := gr1) hwr0 (by simpa using hgr0) hgr1
  have hr1 := Fresh.of_whole (lo := gr1) (hi := v19.heap.size) hwr1 (Nat.le_refl _) hwr1.lt
  clear hgr0 hwr0 hgr1 hwr1
  clear hb
  refine hK.out _ _ ⟨hb0.cell 0, hb0.cell 1, hb0.cell 2, hb1.cell 0, hb1.cell 1⟩ (fun hHeld => ?_)
  clear hK K
  try simp only [Act.put, List.getElem_toArray, List.getElem_cons_succ, List.getElem_cons_zero, List.setIfInBounds_toArray, List.set_cons_succ, List.set_cons_zero]
  refine wpAnyH_ready (rs := [3]) (by kernel_rfl) (by simp) (AllReadyH.cons rfl (fun K hK => ?_) AllReadyH.nil)
  go_simp
  refine (toState_own A2 n2 c2 x2 t0 _ (by exact h2.below ht) HX2.out (by omega)).mono ?_
  rintro e v20 ⟨gr2, rfl, hgr2, hwr2, hb⟩
  have hz20 : v19.heap.size ≤ v20.heap.size := by have := hb.size; simpa using this
  replace ht := below_then ht hb ht.size
  replace hb0 := hb0.below hb
  replace hb1 := hb1.below hb
  replace hF0 := hF0.below hb
  replace hM := hM.below hb
  replace hr0 := hr0.below hb
  replace hr1 := hr1.below hb
  have hr2 := Fresh.of_whole (lo := v19.heap.size) (hi := v20.heap.size) hwr2 (by simpa using hgr2) hwr2.lt
  clear hgr2 hwr2
  clear hb
  refine hK.out _ _ ⟨hb0.cell 0, hb0.cell 1, hb0.cell 2, hb1.cell 0, hb1.cell 1⟩ (fun hHeld => ?_)
  clear hK K
  try simp only [Act.put, List.getElem_toArray, List.getElem_cons_succ, List.getElem_cons_zero, List.setIfInBounds_toArray, List.set_cons_succ, List.set_cons_zero]
  refine wpAnyH_ready (rs := [4]) (by kernel_rfl) (by simp) (AllReadyH.cons rfl (fun K hK => ?_) AllReadyH.nil)
  go_simp
  refine (implRidesOfCrew_any _ n0 _ n1 _ x0 x1 k0 _ n2 _ x2 t0 _ (by exact hr0.holds) (by exact hr1.holds) (by exact hr2.holds) HX0.out HX1.out HX2.out (by omega) (by omega)).mono ?_
  rintro e v21 ⟨B2, m2, q2, rs2, rfl, he2, hl2, hF2, hb⟩
  have hz21 : v20.heap.size ≤ v21.heap.size := by have := hb.size; simpa using this
  replace ht := below_then ht hb ht.size
  replace hb0 := hb0.below hb
  replace hb1 := hb1.below hb
  replace hF0 := hF0.below hb
  replace hM := hM.below hb
  replace hr0 := hr0.below hb
  replace hr1 := hr1.below hb
  replace hr2 := hr2.below hb
  have HER2 := Lib.hid he2
  have HLR2 := Lib.hid hl2
  have hnr2 : m2 ≤ 1048576 := by have h1 := hl2; have h2 := congrArg List.length he2; rw [rowNums_len] at h2; have h3 := hlen.1; omega
  clear he2 hl2
  replace hF2 := hF2.more (lo' := v20.heap.size) (hi' := v21.heap.size) (by simp) (Nat.le_refl _)
  clear hb
  clear hr0 hr1 hr2
  refine hK.out _ _ ⟨hb0.cell 0, hb0.cell 1, hb0.cell 2, hb1.cell 0, hb1.cell 1⟩ (fun hHeld => ?_)
  clear hK K
  try simp only [Act.put, List.getElem_toArray, List.getElem_cons_succ, List.getElem_cons_zero, List.setIfInBounds_toArray, List.set_cons_succ, List.set_cons_zero]
  refine wpAnyH_take (i := 5) (v := ?_) rfl (by kernel_rfl) (by kernel_rfl) (by kernel_rfl) (fun _ _ _ h => h) (Or.inl ⟨rfl, ?_⟩) hHeld ?_
  rotate_left
  · intro w' hS; obtain ⟨s0, s1, s2, s3, s4⟩ := hS; go_simp <;> with_reducible rfl
  simp only [Act.put, List.getElem_toArray, List.getElem_cons_succ, List.getElem_cons_zero, List.setIfInBounds_toArray, List.set_cons_succ, List.set_cons_zero]
  refine wpAnyH_take (i := 6) (v := ?_) rfl (by kernel_rfl) (by kernel_rfl) (by kernel_rfl) (fun _ _ _ h => h) (Or.inl ⟨rfl, ?_⟩) hHeld ?_
  rotate_left
  · intro w' hS; obtain ⟨s0, s1, s2, s3, s4⟩ := hS; go_simp <;> with_reducible rfl
  simp only [Act.put, List.getElem_toArray, List.getElem_cons_succ, List.getElem_cons_zero, List.setIfInBounds_toArray, List.set_cons_succ, List.set_cons_zero]
  refine wpAnyH_take (i := 7) (v := ?_) rfl (by kernel_rfl) (by kernel_rfl) (by kernel_rfl) (fun _ _ _ h => h) (Or.inl ⟨rfl, ?_⟩) hHeld ?_
  rotate_left
  · intro w' hS; obtain ⟨s0, s1, s2, s3, s4⟩ := hS; go_simp <;> with_reducible rfl
  simp only [Act.put, List.getElem_toArray, List.getElem_cons_succ, List.getElem_cons_zero, List.setIfInBounds_toArray, List.set_cons_succ, List.set_cons_zero]
  refine wpAnyH_take (i := 8) (v := ?_) rfl (by kernel_rfl) (by kernel_rfl) (by kernel_rfl) (fun _ _ _ h => h) (Or.inl ⟨rfl, ?_⟩) hHeld ?_
  rotate_left
  · intro w' hS; obtain ⟨s0, s1, s2, s3, s4⟩ := hS; go_simp <;> with_reducible rfl
  simp only [Act.put, List.getElem_toArray, List.getElem_cons_succ, List.getElem_cons_zero, List.setIfInBounds_toArray, List.set_cons_succ, List.set_cons_zero]
  refine wpAnyH_take (i := 9) (v := ?_) rfl (by kernel_rfl) (by kernel_rfl) (by kernel_rfl) (fun _ _ _ h => h) (Or.inl ⟨rfl, ?_⟩) hHeld ?_
  rotate_left
  · intro w' hS; obtain ⟨s0, s1, s2, s3, s4⟩ := hS; go_simp <;> with_reducible rfl
  simp only [Act.put, List.getElem_toArray, List.getElem_cons_succ, List.getElem_cons_zero, List.setIfInBounds_toArray, List.set_cons_succ, List.set_cons_zero]
  refine wpAnyH_done (by kernel_rfl) ?_ _
  clear hHeld
  obtain ⟨hb0_0, hb0_1, hb0_2⟩ := hb0.cells3
  have hb0_l := hb0.lt
  obtain ⟨hb1_0, hb1_1⟩ := hb1.cells2
  have hb1_l := hb1.lt
  -- region 32
  go_wp2_with fail
  refine (eqIntSS_yes B2 B0 m2 m0 q2 q0 rs2 rs0 _ (by exact hF2.grid) (by exact hF0.grid) (by rw [HER2.out, HER0.out]) HLR2.out HLR0.out (by omega)).mono ?_
  rintro e v22 ⟨rfl, hb⟩
  have hz22 : v21.heap.size ≤ v22.heap.size := by have := hb.size; simpa using this
  replace ht := below_then ht hb ht.size
  replace hb0 := hb0.below hb
  replace hb1 := hb1.below hb
  replace hF0 := hF0.below hb
  replace hM := hM.below hb
  replace hF2 := hF2.below hb
  clear hb
  clear hb0_0 hb0_1 hb0_2 hb0_l hb1_0 hb1_1 hb1_l
  obtain ⟨hb0_0, hb0_1, hb0_2⟩ := hb0.cells3
  have hb0_l := hb0.lt
  obtain ⟨hb1_0, hb1_1⟩ := hb1.cells2
  have hb1_l := hb1.lt
  -- region 35
  go_wp2_with fail
  refine (heldIntSS_any B1 m1 q1 rs1 1 _ (by exact hM.grid) HLR1.out (by omega) (by omega) hnr1 hprt).mono ?_
  rintro e v23 ⟨rfl, hb⟩
  have hz23 : v22.heap.size ≤ v23.heap.size := by have := hb.size; simpa using this
  replace ht := below_then ht hb ht.size
  replace hb0 := hb0.below hb
  replace hb1 := hb1.below hb
  replace hF0 := hF0.below hb
  replace hM := hM.below hb
  replace hF2 := hF2.below hb
  clear hb
  clear hb0_0 hb0_1 hb0_2 hb0_l hb1_0 hb1_1 hb1_l
  obtain ⟨hb0_0, hb0_1, hb0_2⟩ := hb0.cells3
  have hb0_l := hb0.lt
  obtain ⟨hb1_0, hb1_1⟩ := hb1.cells2
  have hb1_l := hb1.lt
  go_wp2
  go_ret
  exact ⟨rfl, ht⟩

theorem lawRidesOfCrew_all (A0 : Option Addr) (n0 c0 : Nat) (x0 : List Int) (A1 : Option Addr) (n1 c1 : Nat) (x1 : List Bool) (k0 : Int) (A2 : Option Addr) (n2 c2 : Nat) (x2 : List Bool) (t0 : Bool) (w : World) (h0 : Holds w A0 (nums x0)) (hx0 : x0.length = n0) (hn0 : n0 ≤ 9223372036854775807) (h1 : Holds w A1 (bits x1)) (hx1 : x1.length = n1) (hn1 : n1 ≤ 9223372036854775807) (h2 : Holds w A2 (bits x2)) (hx2 : x2.length = n2) (hn2 : n2 ≤ 9223372036854775807) :
    Calls Try.prog 5 #[.agg #[.slice A0 n0 c0, .slice A1 n1 c1, .int .i64 k0], .agg #[.slice A2 n2 c2, .bool t0]] w fun e w' => e = .returned (.bool true) ∧ Below w.heap.size w w' := by
  rcases (inferInstance : Decidable (0 ≤ 1048576 - (n0 : Int) - (n1 : Int))) with g0 | g0
  · exact lawRidesOfCrew_big0 A0 n0 c0 x0 A1 n1 c1 x1 k0 A2 n2 c2 x2 t0 w h0 hx0 hn0 h1 hx1 hn1 h2 hx2 hn2  (by omega)
  rcases (inferInstance : Decidable (0 ≤ 1048576 - (n0 : Int) - (n1 : Int) - (n2 : Int))) with g1 | g1
  · exact lawRidesOfCrew_big1 A0 n0 c0 x0 A1 n1 c1 x1 k0 A2 n2 c2 x2 t0 w h0 hx0 hn0 h1 hx1 hn1 h2 hx2 hn2 g0 (by omega)
  exact lawRidesOfCrew_small A0 n0 c0 x0 A1 n1 c1 x1 k0 A2 n2 c2 x2 t0 w h0 hx0 hn0 h1 hx1 hn1 h2 hx2 hn2 g0 g1
end Go.Proofs.Ytoedcieofjcgkaa
