/-
  What is proved: plain facts on a search that takes places from a queue and puts those behind them, not yet reached, at its end: at its end it has the least numbers of moves. Conditions: as each says.
  What is proved: contracts of the model's and the library's search for a number in a list. Conditions: the list is read as it lies.
  What is proved: maps of numbers whose keys come out of a finite list, told by what they hold at each key: made, looked up, stored into, deleted from, counted, ranged over. Conditions: as each says.
  What is proved: maps of numbers told by what they hold at each key: a look-up as an equation, a store and a literal's entry as laws of one operation. Conditions: as each says.
  What is proved: the numbers of states: the torch, then the people, as digits, and back. Conditions: as each says.
  What is proved: the contract of the model's number of a state. Conditions: at most eight people.
  What is proved: the contract of the model's state with a number. Conditions: at most eight people; a number below 1,048,576.
  What is proved: laws of a slice of the call's own that may begin anywhere in its row (a queue that is cut at its head): what is appended to it, how its head is cut off. Conditions: as each says.
-/
import Derived.Maps.RangeWalk
import Derived.Maps.Ext
import Derived.Deep.RegionHeld3
import Derived.Deep.DeepCutAuto
import Derived.Deep.AppendLies
import Derived.Test.YtkocompjjogciaaJ1IsCrewPlan
set_option linter.unusedSimpArgs false
set_option linter.unusedVariables false
namespace Go.Proofs.Ytkocompjjogciaa

/-- Each move counts one. -/
def One {α : Type} (E : α → α → Prop) : α → Int → α → Prop := fun x t y => t = 1 ∧ E x y
def put {α : Type} [DecidableEq α] (d : α → Option Int) (y : α) (v : Int) : α → Option Int := fun z => if z = y then some v else d z
theorem put_at {α : Type} [DecidableEq α] (d : α → Option Int) (y : α) (v : Int) : put d y v y = some v := by simp [put]
theorem put_off {α : Type} [DecidableEq α] {d : α → Option Int} {y z : α} {v : Int} (h : z ≠ y) : put d y v z = d z := by simp [put, h]

/-- Between two places: what is reached, what is done with, what waits. -/
structure Wave {α : Type} (E : α → α → Prop) (src : α) (d : α → Option Int) (dn : α → Prop) (queue : List α) : Prop where
  start : d src = some 0
  pred : ∀ y b, d y = some b → (y = src ∧ b = 0) ∨ ∃ x a, d x = some a ∧ E x y ∧ b = a + 1
  low : ∀ y b, d y = some b → 0 ≤ b
  done : ∀ x, dn x → ∀ y, E x y → ∃ a b, d x = some a ∧ d y = some b ∧ b ≤ a + 1
  cover : ∀ y b, d y = some b → dn y ∨ y ∈ queue
  known : ∀ y ∈ queue, ∃ b, d y = some b
  sorted : queue.Pairwise (fun x y => ∀ a b, d x = some a → d y = some b → a ≤ b)
  top : ∀ x rest, queue = x :: rest → ∀ a, d x = some a → ∀ y b, d y = some b → b ≤ a + 1
/-- In the midst of the moves from x. -/
structure Amid {α : Type} (E : α → α → Prop) (src : α) (d : α → Option Int) (dn : α → Prop) (x : α) (a : Int) (tried rest : List α) : Prop where
  start : d src = some 0
  pred : ∀ y b, d y = some b → (y = src ∧ b = 0) ∨ ∃ x a, d x = some a ∧ E x y ∧ b = a + 1
  low : ∀ y b, d y = some b → 0 ≤ b
  done : ∀ x, dn x → ∀ y, E x y → ∃ a b, d x = some a ∧ d y = some b ∧ b ≤ a + 1
  at_ : d x = some a
  tried : ∀ y ∈ tried, ∃ b, d y = some b ∧ b ≤ a + 1
  cover : ∀ y b, d y = some b → dn y ∨ y = x ∨ y ∈ rest
  known : ∀ y ∈ rest, ∃ b, d y = some b ∧ a ≤ b
  sorted : rest.Pairwise (fun x y => ∀ a b, d x = some a → d y = some b → a ≤ b)
  top : ∀ y b, d y = some b → b ≤ a + 1

section
variable {α : Type} {E : α → α → Prop} {src : α} {d : α → Option Int} {dn : α → Prop}
theorem wave_start [DecidableEq α] : Wave E src (put (fun _ => none) src 0) (fun _ => False) [src] where
  start := put_at _ _ _
  pred := fun y b h => by
    by_cases hy : y = src
    · subst hy; rw [put_at] at h; exact .inl ⟨rfl, by simpa using h.symm⟩
    · rw [put_off hy] at h; cases h
  low := fun y b h => by
    by_cases hy : y = src
    · subst hy; rw [put_at] at h; have : (0 : Int) = b := by simpa using h
      omega
    · rw [put_off hy] at h; cases h
  done := fun x h => absurd h (by simp)
  cover := fun y b h => by
    by_cases hy : y = src
    · exact .inr (by simp [hy])
    · rw [put_off hy] at h; cases h
  known := fun y h => by
    obtain rfl : y = src := by simpa using h
    exact ⟨0, put_at _ _ _⟩
  sorted := by simp
  top := fun x rest h a ha y b hb => by
    obtain ⟨rfl, -⟩ : src = x ∧ [] = rest := by simpa using h
    rw [put_at] at ha
    by_cases hy : y = src
    · subst hy; rw [put_at] at hb; have h1 : (0 : Int) = a := by simpa using ha
      have h2 : (0 : Int) = b := by simpa using hb
      omega
    · rw [put_off hy] at hb; cases hb
theorem wave_end (h : Wave E src d dn []) : Least (One E) src d where
  start := h.start
  edge := fun x t y a ha ⟨ht, he⟩ => by
    rcases h.cover x a ha with hd | hd
    · obtain ⟨a', b, h1, h2, h3⟩ := h.done x hd y he
      rw [ha] at h1
      obtain rfl : a = a' := by simpa using h1
      exact ⟨b, h2, by omega⟩
    · cases hd
  pred := fun y b hb => by
    rcases h.pred y b hb with h1 | ⟨x, a, h1, h2, h3⟩
    · exact .inl h1
    · exact .inr ⟨x, 1, a, h1, ⟨rfl, h2⟩, h3⟩
  low := h.low
theorem wave_amid {x : α} {rest : List α} (h : Wave E src d dn (x :: rest)) : ∃ a, Amid E src d dn x a [] rest := by
  obtain ⟨a, ha⟩ := h.known x (by simp)
  obtain ⟨s1, s2⟩ := List.pairwise_cons.1 h.sorted
  refine ⟨a, h.start, h.pred, h.low, h.done, ha, (fun y hy => by cases hy), fun y b hb => ?_, fun y hy => ?_, s2, fun y b hb => h.top x rest rfl a ha y b hb⟩
  · rcases h.cover y b hb with h1 | h1
    · exact .inl h1
    · rcases List.mem_cons.1 h1 with h2 | h2
      · exact .inr (.inl h2)
      · exact .inr (.inr h2)
  · obtain ⟨b, hb⟩ := h.known y (List.mem_cons_of_mem _ hy)
    exact ⟨b, hb, s1 y hy a b ha hb⟩
theorem amid_old {x y : α} {a b : Int} {tried rest : List α} (h : Amid E src d dn x a tried rest) (hy : d y = some b) : Amid E src d dn x a (tried ++ [y]) rest := by
  refine ⟨h.start, h.pred, h.low, h.done, h.at_, fun z hz => ?_, h.cover, h.known, h.sorted, h.top⟩
  rcases List.mem_append.1 hz with h1 | h1
  · exact h.tried z h1
  · obtain rfl : z = y := by simpa using h1
    exact ⟨b, hy, h.top _ _ hy⟩
theorem amid_new [DecidableEq α] {x y : α} {a : Int} {tried rest : List α} (h : Amid E src d dn x a tried rest) (he : E x y) (hy : d y = none) : Amid E src (put d y (a + 1)) dn x a (tried ++ [y]) (rest ++ [y]) := by
  have hk : ∀ {z : α} {b : Int}, d z = some b → put d y (a + 1) z = some b := fun {z b} hz => by
    rw [put_off, hz]
    intro hzy
    rw [hzy, hy] at hz
    cases hz
  have ho : ∀ {z : α} {b : Int}, put d y (a + 1) z = some b → (z = y ∧ b = a + 1) ∨ d z = some b := fun {z b} hz => by
    by_cases hzy : z = y
    · subst hzy
      rw [put_at] at hz
      exact .inl ⟨rfl, by simpa using hz.symm⟩
    · rw [put_off hzy] at hz
      exact .inr hz
  have ha0 := h.low x a h.at_
  refine ⟨hk h.start, fun z b hz => ?_, fun z b hz => ?_, fun z hz w hw => ?_, hk h.at_, fun z hz => ?_, fun z b hz => ?_, fun z hz => ?_, ?_, fun z b hz => ?_⟩
  · rcases ho hz with ⟨rfl, rfl⟩ | h1
    · exact .inr ⟨x, a, hk h.at_, he, rfl⟩
    · rcases h.pred z b h1 with h2 | ⟨w, c, h2, h3, h4⟩
      · exact .inl h2
      · exact .inr ⟨w, c, hk h2, h3, h4⟩
  · rcases ho hz with ⟨rfl, rfl⟩ | h1
    · omega
    · exact h.low z b h1
  · obtain ⟨p, q, h1, h2, h3⟩ := h.done z hz w hw
    exact ⟨p, q, hk h1, hk h2, h3⟩
  · rcases List.mem_append.1 hz with h1 | h1
    · obtain ⟨b, h2, h3⟩ := h.tried z h1
      exact ⟨b, hk h2, h3⟩
    · obtain rfl : z = y := by simpa using h1
      exact ⟨a + 1, put_at _ _ _, Int.le_refl _⟩
  · rcases ho hz with ⟨rfl, rfl⟩ | h1
    · exact .inr (.inr (by simp))
    · rcases h.cover z b h1 with h2 | h2 | h2
      · exact .inl h2
      · exact .inr (.inl h2)
      · exact .inr (.inr (List.mem_append_left _ h2))
  · rcases List.mem_append.1 hz with h1 | h1
    · obtain ⟨b, h2, h3⟩ := h.known z h1
      exact ⟨b, hk h2, h3⟩
    · obtain rfl : z = y := by simpa using h1
      exact ⟨a + 1, put_at _ _ _, by omega⟩
  · rw [List.pairwise_append]
    refine ⟨?_, by simp, fun z hz w hw p q hp hq => ?_⟩
    · refine h.sorted.imp_of_mem fun {z w} hz hw hs p q hp hq => ?_
      obtain ⟨p', h1, -⟩ := h.known z hz
      obtain ⟨q', h2, -⟩ := h.known w hw
      rw [hk h1] at hp
      rw [hk h2] at hq
      obtain rfl : p' = p := by simpa using hp
      obtain rfl : q' = q := by simpa using hq
      exact hs _ _ h1 h2
    · obtain rfl : w = y := by simpa using hw
      rw [put_at] at hq
      have hq' : a + 1 = q := by simpa using hq
      obtain ⟨p', h1, -⟩ := h.known z hz
      rw [hk h1] at hp
      obtain rfl : p' = p := by simpa using hp
      have := h.top z p' h1
      omega
  · rcases ho hz with ⟨rfl, rfl⟩ | h1
    · omega
    · exact h.top z b h1
theorem amid_end {x : α} {a : Int} {tried rest : List α} (h : Amid E src d dn x a tried rest) (hall : ∀ y, E x y → y ∈ tried) : Wave E src d (fun z => dn z ∨ z = x) rest where
  start := h.start
  pred := h.pred
  low := h.low
  done := fun z hz y he => by
    rcases hz with hz | rfl
    · exact h.done z hz y he
    · obtain ⟨b, h1, h2⟩ := h.tried y (hall y he)
      exact ⟨a, b, h.at_, h1, h2⟩
  cover := fun y b hb => by
    rcases h.cover y b hb with h1 | h1 | h1
    · exact .inl (.inl h1)
    · exact .inl (.inr h1)
    · exact .inr h1
  known := fun y hy => by
    obtain ⟨b, h1, -⟩ := h.known y hy
    exact ⟨b, h1⟩
  sorted := h.sorted
  top := fun z rest' hr c hc y b hb => by
    subst hr
    obtain ⟨c', h1, h2⟩ := h.known z (by simp)
    rw [hc] at h1
    obtain rfl : c = c' := by simpa using h1
    have := h.top y b hb
    omega

/-- How many of some places are not reached. -/
def unmet (U : List α) (d : α → Option Int) : Nat := (U.filter (fun z => (d z).isNone)).length
theorem unmet_put [DecidableEq α] {y : α} {v : Int} : ∀ {U : List α}, U.Nodup → y ∈ U → d y = none → unmet U (put d y v) + 1 = unmet U d
  | [], _, h, _ => by cases h
  | u :: U, hn, hm, hy => by
    obtain ⟨hu, hn'⟩ := List.nodup_cons.1 hn
    unfold unmet
    by_cases huy : u = y
    · subst huy
      have hsame : U.filter (fun z => (put d u v z).isNone) = U.filter (fun z => (d z).isNone) := List.filter_congr fun z hz => by
        rw [put_off (fun e => hu (by rw [← e]; exact hz))]
      rw [List.filter_cons_of_neg (by rw [put_at]; simp), List.filter_cons_of_pos (by rw [hy]; rfl), hsame]
      rfl
    · have hm' : y ∈ U := by
        rcases List.mem_cons.1 hm with e | e
        · exact absurd e.symm huy
        · exact e
      have ih := unmet_put (v := v) hn' hm' hy
      unfold unmet at ih
      cases hdu : d u with
      | none =>
        rw [List.filter_cons_of_pos (by rw [put_off huy, hdu]; rfl), List.filter_cons_of_pos (by rw [hdu]; rfl), List.length_cons, List.length_cons]
        omega
      | some b =>
        rw [List.filter_cons_of_neg (by rw [put_off huy, hdu]; simp), List.filter_cons_of_neg (by rw [hdu]; simp)]
        exact ih
end
end Go.Proofs.Ytkocompjjogciaa

namespace Go.Proofs.Ytkocompjjogciaa
open Go.RowKit

def hasK (l : List Int) (x : Int) : Bool := l.contains x

set_option maxHeartbeats 800000 in
theorem l1Has_any (A : Option Addr) (n c : Nat) (l : List Int) (x : Int) (w : World) (hA : Holds w A (nums l)) (hx : l.length = n) (hn : n ≤ 1048576) :
    Calls Try.prog 111 #[.slice A n c, .int .i64 x] w fun e w' => e = .returned (.bool (hasK l x)) ∧ w = w' := by
  subst hx
  go_enter Try.func111, Try.ntmps111
  go_wp2
  go_loop [9] (fun i => ∃ j : Nat, j ≤ l.length ∧ i = .int .i64 j ∧ ∀ q (hq : q < l.length), q < j → l[q] ≠ x) (fun i => l.length - (intOf i).toNat)
  case atStart => exact ⟨0, Nat.zero_le _, rfl, fun q _ h => by omega⟩
  case round =>
    obtain ⟨j, hj, rfl, hs⟩ := hrel
    by_cases hlt : j < l.length
    · obtain ⟨b, o, rfl, hb, hc⟩ := hA.look (k := j) (by simpa [nums] using hlt)
      simp only [nums, List.getElem_map] at hc
      by_cases he : l[j] = x
      · have HQ : Hid (hasK l x = true) := by show l.contains x = _; rw [List.contains_iff_mem, ← he]; exact List.getElem_mem hlt
        have hbe : (l[j] == x) = true := by simp [he]
        clear he hs
        go_wp2
        go_ret
        exact ⟨ret_of (by rw [HQ.out]; rfl), rfl⟩
      · have hbe : (l[j] == x) = false := by simp [he]
        have HE := Lib.hid he
        have HS := Lib.hid hs
        clear he hs
        go_wp2
        go_round
        case rel => exact ⟨j + 1, by omega, by go_num, fun q hq h => by
          rcases Nat.lt_succ_iff_lt_or_eq.1 h with h | rfl
          · exact HS.out q hq h
          · exact HE.out⟩
        case measure => simp [intOf]; omega
    · have HQ : Hid (hasK l x = false) := by
        show l.contains x = _
        rw [Bool.eq_false_iff]
        intro h
        obtain ⟨q, hq, he⟩ := List.getElem_of_mem (List.contains_iff_mem.1 h)
        exact hs q hq (by omega) he
      clear hs
      go_wp2
      go_ret
      exact ⟨ret_of (by rw [HQ.out]; rfl), rfl⟩

def NoneI (bs : List Int) (t : Int) (k : Nat) : Prop := ∀ j (h : j < bs.length), j < k → bs[j] ≠ t
theorem NoneI.next {bs : List Int} {t : Int} {k : Nat} (h : NoneI bs t k) (hk : k < bs.length) (hne : bs[k] ≠ t) : NoneI bs t (k + 1) := fun j hj hlt => by
  rcases (show j < k ∨ j = k by omega) with h1 | h1
  · exact h j hj h1
  · subst h1
    exact hne
def IndexI (bs : List Int) (t : Int) (w : World) (e : Ending) (w' : World) : Prop := ∃ r : Int, e = .returned (.int .i64 r) ∧ decide (0 ≤ r) = bs.any (· == t) ∧ w = w'

end Go.Proofs.Ytkocompjjogciaa

namespace Go.Proofs.Ytkocompjjogciaa
open Go.RowKit Go.Maps Go.WideShapes

/-- Keys of type k: each a of the list dom stands as the value val a and reads as lit a. -/
structure KeyT (P : Program) (k : TypeId) {α : Type} (val : α → Value) (lit : α → Lit) (dom : List α) : Prop where
  law : Keyed P k
  reads : ∀ a ∈ dom, keyOf P k (val a) = some (lit a)
  inj : ∀ a ∈ dom, ∀ b ∈ dom, lit a = lit b → a = b

/-- What is read holds just what M says. -/
structure ReadsAs {H α : Type} (lit : α → Lit) (dom : List α) (D : DataW H) (M : α → Option Int) : Prop where
  keys : ∀ kl, Go.Maps.has D kl = true → ∃ a, a ∈ dom ∧ kl = lit a
  out : ∀ a, M a ≠ none → a ∈ dom
  there : ∀ a, a ∈ dom → Go.Maps.has D (lit a) = (M a).isSome
  at_ : ∀ a c, M a = some c → ∀ z, D.atKey (lit a) z = .lit (.int .i64 c)

theorem nodup_le {β : Type} : ∀ (l m : List β), l.Nodup → (∀ x ∈ l, x ∈ m) → l.length ≤ m.length := by
  intro l
  induction l with
  | nil => intro m _ _; simp
  | cons x l ih =>
    intro m hn hs
    obtain ⟨h1, h2⟩ := List.nodup_cons.1 hn
    obtain ⟨s, t, rfl⟩ := List.append_of_mem (hs x (by simp))
    have := ih (s ++ t) h2 fun y hy => by
      have hy2 := hs y (by simp [hy])
      have hne : y ≠ x := fun e => h1 (e ▸ hy)
      simp only [List.mem_append, List.mem_cons] at hy2 ⊢
      rcases hy2 with h | h | h
      · exact .inl h
      · exact absurd h hne
      · exact .inr h
    simp only [List.length_cons, List.length_append] at this ⊢
    omega

section
variable {H α : Type} {P : Program} {k e : TypeId} {val : α → Value} {lit : α → Lit} {dom : List α} {D : DataW H} {M : α → Option Int}

theorem ReadsAs.size_le {n b : Nat} {w : World} {R : Value → Option (DataW H × List MemPlace)} (h : ReadsAs lit dom D M) (K : Keyed P k) (ho : w.ownsMap P k R b n D) : Maps.size D ≤ dom.length := by
  obtain ⟨es, rfl, hp, hk⟩ := ho.entries K
  have h1 : (es.map (·.1)).length ≤ (dom.map lit).length := by
    refine nodup_le _ _ ?_ ?_
    · rw [List.Nodup, List.pairwise_map]
      exact hp
    · intro x hx
      obtain ⟨p, hp, rfl⟩ := List.mem_map.1 hx
      obtain ⟨a, ha, hl⟩ := h.keys p.1 (List.any_eq_true.2 ⟨p, hp, WideAt.sameKey_self (hk p hp)⟩)
      exact List.mem_map.2 ⟨a, ha, hl.symm⟩
  simpa [Maps.size] using h1

theorem owns_tight {n b : Nat} {w : World} {R : Value → Option (DataW H × List MemPlace)} (ho : w.ownsMap P k R b n D) : w.ownsMap P k R b (Maps.size D) D := by
  obtain ⟨es, clock, hb, F, hs, rfl⟩ := ho
  exact ⟨es, clock, hb, F, by simp [Maps.size, length_sorted], rfl⟩

/-- M with c at a. -/
noncomputable def upd (M : α → Option Int) (a : α) (c : Int) : α → Option Int := fun x => open Classical in if x = a then some c else M x
/-- M without a. -/
noncomputable def del (M : α → Option Int) (a : α) : α → Option Int := fun x => open Classical in if x = a then none else M x
theorem upd_same (M : α → Option Int) (a : α) (c : Int) : upd M a c a = some c := by simp [upd]
theorem upd_other (M : α → Option Int) {a x : α} (c : Int) (h : x ≠ a) : upd M a c x = M x := by simp [upd, h]
theorem del_same (M : α → Option Int) (a : α) : del M a a = none := by simp [del]
theorem del_other (M : α → Option Int) {a x : α} (h : x ≠ a) : del M a x = M x := by simp [del, h]

theorem ReadsAs.empty : ReadsAs lit dom (.map [] : DataW H) (fun _ => none) :=
  ⟨fun kl h => (by cases h), fun a h => absurd rfl h, fun a _ => rfl, fun a c h => (by cases h)⟩

theorem ReadsAs.put (h : ReadsAs lit dom D M) (K : KeyT P k val lit dom) (hD : IsMap D) {a : α} (ha : a ∈ dom) (c : Int) : ReadsAs lit dom (D.put (lit a) (.lit (.int .i64 c))) (upd M a c) := by
  have hk := K.law.key (K.reads a ha)
  refine ⟨fun kl hkl => ?_, fun x hx => ?_, fun x hx => ?_, fun x c' hx z => ?_⟩
  · by_cases e : kl = lit a
    · exact ⟨a, ha, e⟩
    · rw [has_put_other e] at hkl
      exact h.keys kl hkl
  · by_cases e : x = a
    · subst e; exact ha
    · rw [upd_other M c e] at hx
      exact h.out x hx
  · by_cases e : x = a
    · subst e
      rw [has_put_same hD hk, upd_same]
      rfl
    · rw [has_put_other (fun e2 => e (K.inj x hx a ha e2)), upd_other M c e, h.there x hx]
  · by_cases e : x = a
    · subst e
      rw [upd_same] at hx
      rw [atKey_put_same hD hk, Option.some.inj hx]
    · rw [upd_other M c e] at hx
      rw [atKey_put_other (fun e2 => e (K.inj x (h.out x (by rw [hx]; simp)) a ha e2)), h.at_ x c' hx z]

theorem ReadsAs.drop (h : ReadsAs lit dom D M) (K : KeyT P k val lit dom) {a : α} (ha : a ∈ dom) : ReadsAs lit dom (D.del (lit a)) (del M a) := by
  refine ⟨fun kl hkl => ?_, fun x hx => ?_, fun x hx => ?_, fun x c' hx z => ?_⟩
  · by_cases e : kl = lit a
    · exact ⟨a, ha, e⟩
    · rw [has_del_other e] at hkl
      exact h.keys kl hkl
  · by_cases e : x = a
    · subst e; exact ha
    · rw [del_other M e] at hx
      exact h.out x hx
  · by_cases e : x = a
    · subst e
      rw [has_del_same, del_same]
      rfl
    · rw [has_del_other (fun e2 => e (K.inj x hx a ha e2)), del_other M e, h.there x hx]
  · by_cases e : x = a
    · subst e
      rw [del_same] at hx
      cases hx
    · rw [del_other M e] at hx
      rw [atKey_del_other (fun e2 => e (K.inj x (h.out x (by rw [hx]; simp)) a ha e2)), h.at_ x c' hx z]
end

/-- Block b of the world is a map of numbers that holds just what M says. -/
def MapIs (P : Program) (k e : TypeId) {α : Type} (lit : α → Lit) (dom : List α) (w : World) (b : Nat) (M : α → Option Int) : Prop :=
  ∃ D : DataW Unit, w.ownsMap P k (plainElem P e) b dom.length D ∧ ReadsAs lit dom D M

/-- A loop over it: left tells which keys are still to come. -/
def RangeIs (P : Program) (k e : TypeId) {α : Type} (lit : α → Lit) (dom : List α) (w : World) (b r : Nat) (M : α → Option Int) (left : α → Bool) : Prop :=
  ∃ (D : DataW Unit) (left0 : Lit → Bool) (cnt : Nat), w.ranges P k (plainElem P e) b r dom.length D left0 cnt ∧ ReadsAs lit dom D M ∧ (∀ a, a ∈ dom → left0 (lit a) = left a) ∧ (∀ kl, left0 kl = true → Go.Maps.has D kl = true) ∧ (∀ a, left a = true → a ∈ dom)

section
variable {α : Type} {P : Program} {k e : TypeId} {val : α → Value} {lit : α → Lit} {dom : List α} {M : α → Option Int} {w : World} {b r : Nat} {left : α → Bool}

theorem MapIs.lt (h : MapIs P k e lit dom w b M) : b < w.heap.size := by obtain ⟨D, ho, -⟩ := h; exact ho.lt
theorem MapIs.kept {w' : World} {row : Option Nat} (h : MapIs P k e lit dom w b M) (hg : w.grownBy w' row) (hne : some b ≠ row) : MapIs P k e lit dom w' b M := by
  obtain ⟨D, ho, hr⟩ := h; exact ⟨D, ho.kept hg hne, hr⟩
theorem MapIs.alloc (h : MapIs P k e lit dom w b M) (o : Obj) : MapIs P k e lit dom (w.alloc o) b M := by
  obtain ⟨D, ho, hr⟩ := h; exact ⟨D, ho.alloc o, hr⟩
theorem MapIs.below {w' : World} (h : MapIs P k e lit dom w b M) (hb : Below w.heap.size w w') : MapIs P k e lit dom w' b M := by
  have hl := h.lt
  obtain ⟨D, ⟨es, clock, hh, r⟩, hr⟩ := h
  exact ⟨D, ⟨es, clock, (hb.block b hl).trans hh, r⟩, hr⟩
theorem MapIs.out (h : MapIs P k e lit dom w b M) {a : α} (ha : M a ≠ none) : a ∈ dom := by obtain ⟨D, -, hr⟩ := h; exact hr.out a ha
theorem MapIs.made (w : World) (P : Program) (k e : TypeId) (lit : α → Lit) (dom : List α) : MapIs P k e lit dom (w.alloc (.map #[] 0)) w.heap.size (fun _ => none) :=
  ⟨.map [], (World.ownsMap_made w P k _).mono (Nat.zero_le _), ReadsAs.empty⟩
theorem MapIs.same {M' : α → Option Int} (h : MapIs P k e lit dom w b M) (hM : M = M') : MapIs P k e lit dom w b M' := hM ▸ h

theorem RangeIs.lt (h : RangeIs P k e lit dom w b r M left) : r < w.heap.size := by obtain ⟨D, l, c, ho, -⟩ := h; exact ho.lt
theorem RangeIs.ne (h : RangeIs P k e lit dom w b r M left) : r ≠ b := by obtain ⟨D, l, c, ho, -⟩ := h; exact ho.ne
theorem RangeIs.map (h : RangeIs P k e lit dom w b r M left) : MapIs P k e lit dom w b M := by obtain ⟨D, l, c, ho, hr, -⟩ := h; exact ⟨D, ho.owns, hr⟩
theorem RangeIs.kept {w' : World} {row : Option Nat} (h : RangeIs P k e lit dom w b r M left) (hg : w.grownBy w' row) (h1 : some b ≠ row) (h2 : some r ≠ row) : RangeIs P k e lit dom w' b r M left := by
  obtain ⟨D, l, c, ho, hr⟩ := h; exact ⟨D, l, c, ho.kept hg h1 h2, hr⟩
theorem RangeIs.below {w' : World} (h : RangeIs P k e lit dom w b r M left) (hb : Below w.heap.size w w') : RangeIs P k e lit dom w' b r M left :=
  h.kept (row := none) ⟨hb.os, hb.tape, hb.output, hb.size, fun i hi _ => hb.block i hi⟩ (by simp) (by simp)
theorem RangeIs.left_kept {w' : World} {row : Option Nat} (h : RangeIs P k e lit dom w b r M left) (hg : w.grownBy w' row) (h1 : some b ≠ row) (h2 : some r ≠ row) : w'.rangeLeft b r = w.rangeLeft b r := by
  obtain ⟨D, l, c, ho, hr⟩ := h; rw [ho.left_eq, (ho.kept hg h1 h2).left_eq]
theorem RangeIs.left_below {w' : World} (h : RangeIs P k e lit dom w b r M left) (hb : Below w.heap.size w w') : w'.rangeLeft b r = w.rangeLeft b r :=
  h.left_kept (row := none) ⟨hb.os, hb.tape, hb.output, hb.size, fun i hi _ => hb.block i hi⟩ (by simp) (by simp)
end

section
variable {α : Type} {P : Program} {k e t : TypeId} {val : α → Value} {lit : α → Lit} {dom : List α} {M : α → Option Int} (w : World) {b r : Nat} {left : α → Bool}
  {ops : Array Oper} {rest : List Oper} {o : Oper} {a : Act} {Q : Exit → Act → World → Prop}

theorem opt_cases {x : Option Int} {c : Int} {D : DataW Unit} {kl : Lit} (h1 : x = none → Go.Maps.has D kl = false) (h2 : ∀ c, x = some c → ∀ z, D.atKey kl z = .lit (.int .i64 c)) (hat : D.atKey kl (.lit (.int .i64 0)) = .lit (.int .i64 c)) : x.getD 0 = c := by
  cases x with
  | none =>
    rw [atKey_of_not_has (h1 rfl)] at hat
    simp at hat
    exact hat
  | some c' =>
    rw [h2 c' rfl] at hat
    simp at hat
    exact hat

/-- 'm[k]'. -/
theorem wpList_map_look (hg : o.guard = none) (m x : Operand) (hop : o.op = Op.lookup t m x false) (K : KeyT P k val lit dom) (ht : P.underlying t = some (.map k e)) (he : P.underlying e = some (.int .i64)) (hz : (zeroValue e).run P w = .ok (.int .i64 0) w)
    (hm : a.eval m = .map (some b)) (hown : MapIs P k e lit dom w b M) (key : α) (hkd : key ∈ dom) (hx : a.eval x = val key)
    (hK : wpList P ops Q rest (a.put o.dst (.int .i64 ((M key).getD 0))) w) : wpList P ops Q (o :: rest) a w := by
  obtain ⟨D, ho, hr⟩ := hown
  refine wpList_lookup_own_int w hg m x t hop k e .i64 K.law ht he hz b dom.length D hm ho (val key) (lit key) hx (K.reads key hkd) fun c hat _ => ?_
  rw [opt_cases (fun h => by rw [hr.there key hkd, h]; rfl) (fun c h => hr.at_ key c h) hat] at hK
  exact hK

/-- 'v, ok := m[k]'. -/
theorem wpList_map_look_ok (hg : o.guard = none) (m x : Operand) (hop : o.op = Op.lookup t m x true) (K : KeyT P k val lit dom) (ht : P.underlying t = some (.map k e)) (he : P.underlying e = some (.int .i64)) (hz : (zeroValue e).run P w = .ok (.int .i64 0) w)
    (hm : a.eval m = .map (some b)) (hown : MapIs P k e lit dom w b M) (key : α) (hkd : key ∈ dom) (hx : a.eval x = val key)
    (hK : wpList P ops Q rest (a.put o.dst (.tuple #[.int .i64 ((M key).getD 0), .bool (M key).isSome])) w) : wpList P ops Q (o :: rest) a w := by
  obtain ⟨D, ho, hr⟩ := hown
  refine wpList_lookup_own_ok_int w hg m x t hop k e .i64 K.law ht he hz b dom.length D hm ho (val key) (lit key) hx (K.reads key hkd) fun c hat _ => ?_
  rw [opt_cases (fun h => by rw [hr.there key hkd, h]; rfl) (fun c h => hr.at_ key c h) hat, ← hr.there key hkd] at hK
  exact hK

/-- 'm[k] = v'. -/
theorem wpList_map_put (hg : o.guard = none) (m x v : Operand) (hop : o.op = Op.mapUpdate t m x v) (K : KeyT P k val lit dom) (ht : P.underlying t = some (.map k e)) (he : P.underlying e = some (.int .i64)) (hdom : dom.length < maxLen)
    (hm : a.eval m = .map (some b)) (hown : MapIs P k e lit dom w b M) (key : α) (hkd : key ∈ dom) (hx : a.eval x = val key) (c : Int) (hc : (Lit.int .i64 c).wf = true) (hv : a.eval v = .int .i64 c)
    (hK : ∀ w', MapIs P k e lit dom w' b (upd M key c) → w.grownBy w' (some b) → wpList P ops Q rest (a.put o.dst undef) w') : wpList P ops Q (o :: rest) a w := by
  obtain ⟨D, ho, hr⟩ := hown
  refine wpList_mapUpdate_own w hg m x v t hop k e K.law ht _ b dom.length D hm ho hdom (val key) (.int .i64 c) (lit key) hx hv (K.reads key hkd) (.lit (.int .i64 c)) [] (plainElem_int he hc) fun w' ho' hg' => hK w' ?_ hg'
  have hr' := hr.put K ho.isMap hkd c
  exact ⟨_, (owns_tight ho').mono (hr'.size_le K.law ho'), hr'⟩

/-- 'delete(m, k)'. -/
theorem wpList_map_delete (hg : o.guard = none) (m x : Operand) (hop : o.op = Op.call { callee := Callee.builtin Builtin.delete, args := #[m, x], argTypes := #[t, k] }) (K : KeyT P k val lit dom) (ht : P.underlying t = some (.map k e))
    (hm : a.eval m = .map (some b)) (hown : MapIs P k e lit dom w b M) (key : α) (hkd : key ∈ dom) (hx : a.eval x = val key)
    (hK : ∀ w', MapIs P k e lit dom w' b (del M key) → w.grownBy w' (some b) → wpList P ops Q rest (a.put o.dst (.tuple #[])) w') : wpList P ops Q (o :: rest) a w := by
  obtain ⟨D, ho, hr⟩ := hown
  exact wpList_delete_own w hg m x t k hop e K.law ht _ b dom.length D hm ho (val key) (lit key) hx (K.reads key hkd) fun w' ho' ht' => hK w' ⟨_, ho', hr.drop K hkd⟩ ht'.grown

/-- How many keys are there. -/
noncomputable def countIs (dom : List α) (M : α → Option Int) : Nat := (dom.filter fun a => (M a).isSome).length

theorem MapIs.count {b : Nat} {w : World} (K : KeyT P k val lit dom) (hd : dom.Nodup) {D : DataW Unit} (ho : w.ownsMap P k (plainElem P e) b dom.length D) (hr : ReadsAs lit dom D M) : Maps.size D = countIs dom M := by
  obtain ⟨es, rfl, hp, hk⟩ := ho.entries K.law
  have hkeys : ∀ x, x ∈ es.map (·.1) ↔ x ∈ (dom.filter fun a => (M a).isSome).map lit := by
    intro x
    constructor
    · intro hx
      obtain ⟨p, hp, rfl⟩ := List.mem_map.1 hx
      have hh : Go.Maps.has (.map es) p.1 = true := List.any_eq_true.2 ⟨p, hp, WideAt.sameKey_self (hk p hp)⟩
      obtain ⟨a, ha, hl⟩ := hr.keys p.1 hh
      refine List.mem_map.2 ⟨a, List.mem_filter.2 ⟨ha, ?_⟩, hl.symm⟩
      show (M a).isSome = true
      rw [← hr.there a ha, ← hl]
      exact hh
    · intro hx
      obtain ⟨a, ha, rfl⟩ := List.mem_map.1 hx
      obtain ⟨ha, hs⟩ := List.mem_filter.1 ha
      rw [← hr.there a ha] at hs
      obtain ⟨p, hp, hpk⟩ := List.any_eq_true.1 hs
      exact List.mem_map.2 ⟨p, hp, WideAt.sameKey_eq hpk⟩
  have n1 : (es.map (·.1)).Nodup := by
    rw [List.Nodup, List.pairwise_map]
    exact hp
  have n2 : ((dom.filter fun a => (M a).isSome).map lit).Nodup := by
    rw [List.Nodup, List.pairwise_map]
    refine List.Pairwise.imp_of_mem ?_ (hd.filter _)
    intro a b ha hb hne e
    exact hne (K.inj a (List.mem_filter.1 ha).1 b (List.mem_filter.1 hb).1 e)
  have h1 := nodup_le _ _ n1 fun x hx => (hkeys x).1 hx
  have h2 := nodup_le _ _ n2 fun x hx => (hkeys x).2 hx
  simp only [List.length_map] at h1 h2
  show es.length = _
  unfold countIs
  omega

/-- 'len(m)'. -/
theorem wpList_map_len (hg : o.guard = none) (m : Operand) (hop : o.op = Op.call { callee := Callee.builtin Builtin.len, args := #[m], argTypes := #[t] }) (K : KeyT P k val lit dom) (hd : dom.Nodup) (ht : P.underlying t = some (.map k e))
    (hm : a.eval m = .map (some b)) (hown : MapIs P k e lit dom w b M)
    (hK : wpList P ops Q rest (a.put o.dst (.int .i64 (countIs dom M : Nat))) w) : wpList P ops Q (o :: rest) a w := by
  obtain ⟨D, ho, hr⟩ := hown
  refine wpList_len_own w hg m t hop k e ht _ b dom.length D hm ho ?_
  rw [MapIs.count K hd ho hr]
  exact hK

/-- 'range m'. -/
theorem wpList_map_range (hg : o.guard = none) (m : Operand) (hop : o.op = Op.range t m) (K : KeyT P k val lit dom) (ht : P.underlying t = some (.map k e)) (hm : a.eval m = .map (some b)) (hown : MapIs P k e lit dom w b M)
    (hK : ∀ w', RangeIs P k e lit dom w' b w.heap.size M (fun x => (M x).isSome) → w.grownBy w' none → w'.heap.size = w.heap.size + 1 → wpList P ops Q rest (a.put o.dst (.pointer (some ⟨w.heap.size, 0, none⟩))) w') : wpList P ops Q (o :: rest) a w := by
  obtain ⟨D, ho, hr⟩ := hown
  refine wpList_range_own w hg m t hop k e K.law ht _ b dom.length D hm ho fun w' hrg hg' hs => hK w' ⟨D, _, _, hrg, hr, fun a ha => hr.there a ha, fun kl h => h, fun a ha => hr.out a (fun h => by simp [h] at ha)⟩ hg' hs

/-- The step of such a loop. -/
theorem wpList_map_next (hg : o.guard = none) (it : Operand) (hop : o.op = Op.next it false) (K : KeyT P k val lit dom) (he : P.underlying e = some (.int .i64)) (hit : a.eval it = .pointer (some ⟨r, 0, none⟩)) (h : RangeIs P k e lit dom w b r M left)
    (hDone : (∀ x, left x = false) → wpList P ops Q rest (a.put o.dst (.tuple #[.bool false])) w)
    (hMore : ∀ (x : α) (c : Int) (w' : World), x ∈ dom → left x = true → M x = some c → (Lit.int .i64 c).wf = true → RangeIs P k e lit dom w' b r M (fun z => open Classical in if z = x then false else left z) → w'.rangeLeft b r < w.rangeLeft b r → w.grownBy w' (some r) → w'.heap.size = w.heap.size →
      (Instr.entry (.pointer (some ⟨r, 0, none⟩))).run P w' = .ok (.tuple #[val x, .int .i64 c]) w' → wpList P ops Q rest (a.put o.dst (.tuple #[.bool true, val x, .int .i64 c])) w') :
    wpList P ops Q (o :: rest) a w := by
  obtain ⟨D, left0, cnt, hrg, hr, hl, hh, hld⟩ := h
  refine wpList_plain hg fun K' hK' => ?_
  unfold Oper.wp
  rcases hrg.next K.law o.type with ⟨h0, hl0, hrun⟩ | ⟨key, v, kl, y, w', cnt', hkey, hlk, hv, hat, hrun, hrg', hlt, hgr, hsz, hen⟩
  · simp [execOp, hop, hit, hrun, Result.andThen]
    refine hK' _ _ (hDone fun x => ?_)
    cases hx : left x
    · rfl
    · rw [← hl x (hld x hx), hl0] at hx
      cases hx
  · obtain ⟨x, hxd, rfl⟩ := hr.keys kl (hh kl hlk)
    obtain rfl : key = val x := K.law.inj hkey (K.reads x hxd)
    obtain ⟨c, rfl, rfl, hwc⟩ := plainElem_int_inv he hv
    have hMx : M x = some c := by
      cases hM : M x with
      | none =>
        have := hr.there x hxd
        rw [hM, hh _ hlk] at this
        cases this
      | some c' =>
        have h1 := hr.at_ x c' hM (.lit (.int .i64 0))
        rw [hat] at h1
        simp at h1
        rw [h1]
    simp [execOp, hop, hit, hrun, Result.andThen]
    refine hK' _ _ (hMore x c w' hxd ((hl x hxd).symm.trans hlk) hMx hwc ⟨D, _, cnt', hrg', hr, fun z hz => ?_, fun kl' h' => hh kl' ?_, fun z hz => ?_⟩ ?_ hgr hsz hen)
    · by_cases ez : z = x
      · subst ez
        simp [WideAt.sameKey_self (K.law.key (K.reads z hz))]
      · simp [ez, hl z hz, sameKey_ne (fun e2 => ez (K.inj z hz x hxd e2))]
    · simp at h'
      exact h'.1
    · by_cases ez : z = x
      · subst ez; exact hxd
      · simp [ez] at hz
        exact hld z hz
    · rw [hrg'.left_eq, hrg.left_eq]
      exact hlt
end
end Go.Proofs.Ytkocompjjogciaa

namespace Go.Proofs.Ytkocompjjogciaa
open Go.RowKit Go.Maps Go.WideShapes

section
variable {α : Type} {P : Program} {k e t : TypeId} {val : α → Value} {lit : α → Lit} {dom : List α} {M : α → Option Int} (w : World) {b : Nat}

theorem MapIs.look {w : World} (h : MapIs P k e lit dom w b M) (K : KeyT P k val lit dom) (ht : P.underlying t = some (.map k e)) (he : P.underlying e = some (.int .i64)) (hz : (zeroValue e).run P w = .ok (.int .i64 0) w) (key : α) (hkd : key ∈ dom) :
    (Instr.lookup t (.map (some b)) (val key) false).run P w = .ok (.int .i64 ((M key).getD 0)) w := by
  obtain ⟨D, ho, hr⟩ := h
  obtain ⟨c, hrun, hat, -⟩ := ho.lookup_int K.law ht he hz (K.reads key hkd)
  rw [hrun, opt_cases (fun h => by rw [hr.there key hkd, h]; rfl) (fun c h => hr.at_ key c h) hat]
theorem MapIs.look_ok {w : World} (h : MapIs P k e lit dom w b M) (K : KeyT P k val lit dom) (ht : P.underlying t = some (.map k e)) (he : P.underlying e = some (.int .i64)) (hz : (zeroValue e).run P w = .ok (.int .i64 0) w) (key : α) (hkd : key ∈ dom) :
    (Instr.lookup t (.map (some b)) (val key) true).run P w = .ok (.tuple #[.int .i64 ((M key).getD 0), .bool (M key).isSome]) w := by
  obtain ⟨D, ho, hr⟩ := h
  obtain ⟨v, ps, hrun, hv⟩ := ho.look_ok K.law ht hz (plainElem_int he (by decide)) (K.reads key hkd)
  obtain ⟨c, rfl, hc, -⟩ := plainElem_int_inv he hv
  simp only [Prod.mk.injEq] at hc
  rw [hrun, opt_cases (fun h => by rw [hr.there key hkd, h]; rfl) (fun c h => hr.at_ key c h) hc.1, ← hr.there key hkd]
theorem MapIs.update {w : World} (h : MapIs P k e lit dom w b M) (K : KeyT P k val lit dom) (ht : P.underlying t = some (.map k e)) (he : P.underlying e = some (.int .i64)) (hdom : dom.length < maxLen) (key : α) (hkd : key ∈ dom) (c : Int) (hc : (Lit.int .i64 c).wf = true) :
    ∃ w', (Instr.mapUpdate t (.map (some b)) (val key) (.int .i64 c)).run P w = .ok () w' ∧ MapIs P k e lit dom w' b (upd M key c) ∧ w.grownBy w' (some b) := by
  obtain ⟨D, ho, hr⟩ := h
  obtain ⟨w', hrun, r1, r2⟩ := ho.update K.law ht hdom (K.reads key hkd) (plainElem_int he hc)
  have hr' := hr.put K ho.isMap hkd c
  exact ⟨w', hrun, ⟨_, (owns_tight r1).mono (hr'.size_le K.law r1), hr'⟩, r2⟩
/-- 'm[k] = v', as one operation. -/
theorem wp_map_put {o : Oper} {a : Act} {K' : Act → World → Prop} {Q : Exit → Act → World → Prop} (m x v : Operand) (hop : o.op = Op.mapUpdate t m x v) (K : KeyT P k val lit dom) (ht : P.underlying t = some (.map k e)) (he : P.underlying e = some (.int .i64)) (hdom : dom.length < maxLen)
    (hm : a.eval m = .map (some b)) (hown : MapIs P k e lit dom w b M) (key : α) (hkd : key ∈ dom) (hx : a.eval x = val key) (c : Int) (hc : (Lit.int .i64 c).wf = true) (hv : a.eval v = .int .i64 c)
    (hK : ∀ w', MapIs P k e lit dom w' b (upd M key c) → w.grownBy w' (some b) → K' (a.put o.dst undef) w') : o.wp P a w K' Q := by
  obtain ⟨w', hrun, r1, r2⟩ := hown.update K ht he hdom key hkd c hc
  unfold Oper.wp
  simp [execOp, hop, hm, hx, hv, hrun, Result.andThen]
  exact hK w' r1 r2
/-- 'v, ok := m[k]' where it is not there, and where it is. -/
theorem wpList_map_none {ops : Array Oper} {rest : List Oper} {o : Oper} {a : Act} {Q : Exit → Act → World → Prop} (hg : o.guard = none) (m x : Operand) (hop : o.op = Op.lookup t m x true) (K : KeyT P k val lit dom) (ht : P.underlying t = some (.map k e)) (he : P.underlying e = some (.int .i64)) (hz : (zeroValue e).run P w = .ok (.int .i64 0) w)
    (hm : a.eval m = .map (some b)) (hown : MapIs P k e lit dom w b M) (key : α) (hkd : key ∈ dom) (hx : a.eval x = val key) (hM : M key = none)
    (hK : wpList P ops Q rest (a.put o.dst (.tuple #[.int .i64 0, .bool false])) w) : wpList P ops Q (o :: rest) a w :=
  wpList_map_look_ok w hg m x hop K ht he hz hm hown key hkd hx (by rw [hM]; exact hK)
theorem wpList_map_some {ops : Array Oper} {rest : List Oper} {o : Oper} {a : Act} {Q : Exit → Act → World → Prop} (hg : o.guard = none) (m x : Operand) (hop : o.op = Op.lookup t m x true) (K : KeyT P k val lit dom) (ht : P.underlying t = some (.map k e)) (he : P.underlying e = some (.int .i64)) (hz : (zeroValue e).run P w = .ok (.int .i64 0) w)
    (hm : a.eval m = .map (some b)) (hown : MapIs P k e lit dom w b M) (key : α) (hkd : key ∈ dom) (hx : a.eval x = val key) {c : Int} (hM : M key = some c)
    (hK : wpList P ops Q rest (a.put o.dst (.tuple #[.int .i64 c, .bool true])) w) : wpList P ops Q (o :: rest) a w :=
  wpList_map_look_ok w hg m x hop K ht he hz hm hown key hkd hx (by rw [hM]; exact hK)
/-- An entry of a map's literal. -/
theorem wpList_map_entry {ops : Array Oper} {rest : List Oper} {o : Oper} {a : Act} {Q : Exit → Act → World → Prop} (hg : o.guard = none) (m x v : Operand) (hop : o.op = Op.insert t m x v) (K : KeyT P k val lit dom) (ht : P.underlying t = some (.map k e)) (he : P.underlying e = some (.int .i64)) (hdom : dom.length < maxLen)
    (hm : a.eval m = .map (some b)) (hown : MapIs P k e lit dom w b M) (key : α) (hkd : key ∈ dom) (hx : a.eval x = val key) (c : Int) (hc : (Lit.int .i64 c).wf = true) (hv : a.eval v = .int .i64 c)
    (hK : ∀ w', MapIs P k e lit dom w' b (upd M key c) → w.grownBy w' (some b) → wpList P ops Q rest (a.put o.dst undef) w') : wpList P ops Q (o :: rest) a w := by
  refine wpList_plain hg fun K2 hK2 => ?_
  obtain ⟨w', hrun, r1, r2⟩ := hown.update K ht he hdom key hkd c hc
  unfold Oper.wp
  simp [execOp, hop, hm, hx, hv, hrun, Result.andThen]
  exact hK2 _ _ (hK w' r1 r2)
end

/-- The number that a list of entries holds at a key: the newest one. -/
def lk (m : List (Nat × Int)) (y : Nat) : Option Int := m.lookup y
theorem lk_put (m : List (Nat × Int)) (y : Nat) (v : Int) : upd (lk m) y v = lk ((y, v) :: m) := by
  funext z
  by_cases h : z = y
  · subst h; rw [upd_same]; simp [lk]
  · rw [upd_other _ _ h]
    have hb : (z == y) = false := by simp [h]
    simp [lk, List.lookup, hb]
theorem lk_mem {m : List (Nat × Int)} {y : Nat} {v : Int} (h : lk m y = some v) : (y, v) ∈ m := by
  induction m with
  | nil => simp [lk] at h
  | cons p m ih =>
    obtain ⟨a, b⟩ := p
    by_cases e : y = a
    · subst e
      have : b = v := by simpa [lk] using h
      simp [this]
    · have hb : (y == a) = false := by simp [e]
      have h' : lk m y = some v := by simpa [lk, List.lookup, hb] using h
      exact List.mem_cons_of_mem _ (ih h')
end Go.Proofs.Ytkocompjjogciaa

namespace Go.Proofs.Ytkocompjjogciaa

/-- A list of truth values behind a number, as digits. -/
def num (bs : List Bool) (a : Nat) : Nat := bs.foldl (fun n b => 2 * n + b.toNat) a
theorem num_snoc (bs : List Bool) (b : Bool) (a : Nat) : num (bs ++ [b]) a = 2 * num bs a + b.toNat := by simp [num, List.foldl_append]
theorem num_cons (bs : List Bool) (b : Bool) (a : Nat) : num (b :: bs) a = num bs (2 * a + b.toNat) := rfl
theorem num_parts (bs : List Bool) : ∀ a, ∃ r, num bs a = a * 2 ^ bs.length + r ∧ r < 2 ^ bs.length := by
  induction bs with
  | nil => exact fun a => ⟨0, by simp [num], by simp⟩
  | cons b bs ih =>
    intro a
    obtain ⟨r, h1, h2⟩ := ih (2 * a + b.toNat)
    refine ⟨b.toNat * 2 ^ bs.length + r, ?_, ?_⟩
    · rw [num_cons, h1, List.length_cons, Nat.pow_succ, Nat.add_mul, Nat.mul_comm (2 ^ bs.length) 2, ← Nat.mul_assoc, Nat.mul_comm a 2, Nat.add_assoc]
    · rw [List.length_cons, Nat.pow_succ]
      cases b
      · simp; omega
      · simp; omega
theorem num_head (bs : List Bool) (a : Nat) : num bs a / 2 ^ bs.length = a := by
  obtain ⟨r, h1, h2⟩ := num_parts bs a
  rw [h1, Nat.mul_comm, Nat.mul_add_div (Nat.two_pow_pos _), Nat.div_eq_of_lt h2, Nat.add_zero]
theorem num_lt (bs : List Bool) (b : Bool) : num bs b.toNat < 2 ^ (bs.length + 1) := by
  obtain ⟨r, h1, h2⟩ := num_parts bs b.toNat
  rw [h1, Nat.pow_succ]
  cases b
  · simp; omega
  · simp; omega
/-- The digit of a person. -/
theorem num_digit (bs : List Bool) : ∀ (a k : Nat) (h : k < bs.length), num bs a / 2 ^ (bs.length - 1 - k) % 2 = bs[k].toNat := by
  induction bs with
  | nil => intro a k h; simp at h
  | cons b bs ih =>
    intro a k h
    rw [num_cons]
    cases k with
    | zero =>
      have : (b :: bs).length - 1 - 0 = bs.length := by simp
      rw [this, num_head]
      cases b <;> simp <;> omega
    | succ k =>
      have hk : k < bs.length := by simpa using h
      have : (b :: bs).length - 1 - (k + 1) = bs.length - 1 - k := by simp; omega
      rw [this, ih _ k hk]
      simp
/-- The digits of a number, n of them. -/
def digits (n i : Nat) : List Bool := (List.range n).map fun k => decide (i / 2 ^ (n - 1 - k) % 2 = 1)
theorem digits_len (n i : Nat) : (digits n i).length = n := by simp [digits]
theorem digits_num (bs : List Bool) (a : Nat) : digits bs.length (num bs a) = bs := by
  refine List.ext_getElem (digits_len _ _) fun k h1 h2 => ?_
  simp only [digits, List.getElem_map, List.getElem_range]
  rw [num_digit bs a k h2]
  cases bs[k] <;> rfl
theorem digits_succ (n i : Nat) : digits (n + 1) i = digits n (i / 2) ++ [decide (i % 2 = 1)] := by
  rw [digits, List.range_succ, List.map_append, digits]
  congr 1
  · refine List.map_congr_left fun k hk => ?_
    have hk := List.mem_range.1 hk
    rw [Nat.div_div_eq_div_mul, show n + 1 - 1 - k = n - 1 - k + 1 by omega, Nat.pow_succ, Nat.mul_comm (2 ^ (n - 1 - k)) 2]
  · simp
theorem num_digits : ∀ (n i : Nat), num (digits n i) (i / 2 ^ n) = i := by
  intro n
  induction n with
  | zero => intro i; simp [digits, num]
  | succ n ih =>
    intro i
    rw [digits_succ, num_snoc, show i / 2 ^ (n + 1) = i / 2 / 2 ^ n by rw [Nat.pow_succ, Nat.mul_comm, Nat.div_div_eq_div_mul], ih (i / 2)]
    rcases Nat.mod_two_eq_zero_or_one i with h | h <;> simp [h] <;> omega
end Go.Proofs.Ytkocompjjogciaa

namespace Go.Proofs.Ytkocompjjogciaa
open Go.RowKit

theorem num_next {bs : List Bool} {j : Nat} (hj : j < bs.length) (a : Nat) : num (bs.take (j + 1)) a = 2 * num (bs.take j) a + bs[j].toNat := by rw [List.take_succ_eq_append_getElem hj, num_snoc]
theorem num_small {bs : List Bool} (j : Nat) (hn : bs.length ≤ 8) (t : Bool) : num (bs.take j) t.toNat < 512 := by
  have h := num_lt (bs.take j) t
  have h2 : 2 ^ ((bs.take j).length + 1) ≤ 2 ^ 9 := Nat.pow_le_pow_right (by omega) (by rw [List.length_take]; omega)
  omega

set_option maxHeartbeats 3200000 in
set_option linter.unusedSimpArgs false in
set_option linter.unusedVariables false in
theorem seIndex_any (A : Option Addr) (n c : Nat) (bs : List Bool) (t : Bool) (w : World) (hA : Holds w A (bits bs)) (hx : bs.length = n) (hn : n ≤ 8) :
    Calls Try.prog 110 #[.agg #[.slice A n c, .bool t]] w fun e w' => e = .returned (.int .i64 (num bs t.toNat : Nat)) ∧ Below w.heap.size w w' := by
  subst hx
  have hs := Whole.fresh w 38 #[.slice A bs.length c, .bool t]
  have ht := below1 w (.cells #[.slice A bs.length c, .bool t] 38)
  have hB := hA.below ht
  obtain ⟨c0, c1, -, -⟩ := hs.two
  go_enter Try.func110, Try.ntmps110
  cases t
  · have HS : Hid (num (bs.take 0) (Bool.toNat false) = 0) := by show _ = _; simp [num]
    go_wp2
    go_loop [3, 11] (fun v i => ∃ j : Nat, j ≤ bs.length ∧ i = .int .i64 j ∧ v = .int .i64 (num (bs.take j) (Bool.toNat false) : Nat)) (fun _ i => bs.length - (intOf i).toNat)
    case atStart => exact ⟨0, Nat.zero_le _, rfl, by rw [HS.out]; rfl⟩
    case round =>
      clear HS
      obtain ⟨j, hj, rfl, rfl⟩ := hrel
      by_cases hlt : j < bs.length
      · obtain ⟨b, o, rfl, hbl, hcc⟩ := hB.look (k := j) (by simpa [bits] using hlt)
        simp only [bits, List.getElem_map] at hcc
        have hnx := num_next hlt (Bool.toNat false)
        have hsm := num_small (bs := bs) j hn false
        generalize num (bs.take j) (Bool.toNat false) = a at hnx hsm ⊢
        have hw1 : IntKind.i64.wrap ((a : Int) * 2) = (a : Int) * 2 := IntWalk.i64_in _ (by omega)
        have hw2 : IntKind.i64.wrap ((a : Int) * 2 + 1) = (a : Int) * 2 + 1 := IntWalk.i64_in _ (by omega)
        have HNX := Lib.hid hnx
        clear hnx
        cases he : bs[j]
        · rw [he] at hcc HNX
          clear he
          go_wp2
          go_round
          case rel => exact ⟨j + 1, by omega, by go_num, by rw [HNX.out]; simp; omega⟩
          case measure => simp [intOf]; omega
        · rw [he] at hcc HNX
          clear he
          go_wp2
          go_round
          case rel => exact ⟨j + 1, by omega, by go_num, by rw [HNX.out]; simp; omega⟩
          case measure => simp [intOf]; omega
      · obtain rfl : j = bs.length := by omega
        have hd : decide ((bs.length : Int) < (bs.length : Int)) = false := by simp
        have HT : Hid (bs.take bs.length = bs) := by show _ = _; simp
        go_wp2
        go_ret
        exact ⟨ret_of rfl, ht⟩
  · have HS : Hid (num (bs.take 0) (Bool.toNat true) = 1) := by show _ = _; simp [num]
    go_wp2
    go_loop [3, 11] (fun v i => ∃ j : Nat, j ≤ bs.length ∧ i = .int .i64 j ∧ v = .int .i64 (num (bs.take j) (Bool.toNat true) : Nat)) (fun _ i => bs.length - (intOf i).toNat)
    case atStart => exact ⟨0, Nat.zero_le _, rfl, by rw [HS.out]; rfl⟩
    case round =>
      clear HS
      obtain ⟨j, hj, rfl, rfl⟩ := hrel
      by_cases hlt : j < bs.length
      · obtain ⟨b, o, rfl, hbl, hcc⟩ := hB.look (k := j) (by simpa [bits] using hlt)
        simp only [bits, List.getElem_map] at hcc
        have hnx := num_next hlt (Bool.toNat true)
        have hsm := num_small (bs := bs) j hn true
        generalize num (bs.take j) (Bool.toNat true) = a at hnx hsm ⊢
        have hw1 : IntKind.i64.wrap ((a : Int) * 2) = (a : Int) * 2 := IntWalk.i64_in _ (by omega)
        have hw2 : IntKind.i64.wrap ((a : Int) * 2 + 1) = (a : Int) * 2 + 1 := IntWalk.i64_in _ (by omega)
        have HNX := Lib.hid hnx
        clear hnx
        cases he : bs[j]
        · rw [he] at hcc HNX
          clear he
          go_wp2
          go_round
          case rel => exact ⟨j + 1, by omega, by go_num, by rw [HNX.out]; simp; omega⟩
          case measure => simp [intOf]; omega
        · rw [he] at hcc HNX
          clear he
          go_wp2
          go_round
          case rel => exact ⟨j + 1, by omega, by go_num, by rw [HNX.out]; simp; omega⟩
          case measure => simp [intOf]; omega
      · obtain rfl : j = bs.length := by omega
        have hd : decide ((bs.length : Int) < (bs.length : Int)) = false := by simp
        have HT : Hid (bs.take bs.length = bs) := by show _ = _; simp
        go_wp2
        go_ret
        exact ⟨ret_of rfl, ht⟩
end Go.Proofs.Ytkocompjjogciaa

namespace Go.Proofs.Ytkocompjjogciaa
open Go.RowKit

/-- The torch in a state's number. -/
def topBit (n x : Nat) : Bool := x / 2 ^ n == 1
/-- Behind the making of the state: its block and its list's. -/
def SeMade (n : Nat) (tb : Bool) (w : World) (v : Value) (wx : World) : Prop :=
  ∃ gs gb : Nat, v = .pointer (some ⟨gb, 0, none⟩) ∧ gs ≠ gb ∧ w.heap.size + 1 ≤ gs ∧ w.heap.size + 1 ≤ gb ∧ gs < wx.heap.size ∧
    Whole wx w.heap.size 38 #[.slice none 0 0, .bool false] ∧ Whole wx gb 38 #[.slice (some ⟨gs, 0, none⟩) n n, .bool tb] ∧ Whole wx gs 4 (bits (falses n)).toArray ∧ Below w.heap.size w wx

theorem top_int (n x : Nat) : ((x : Int) / 2 ^ n == 1) = topBit n x := by
  have h : (x : Int) / 2 ^ n = ((x / 2 ^ n : Nat) : Int) := by norm_cast
  rw [h, topBit]
  by_cases h : x / 2 ^ n = 1
  · simp [h]
  · have : ((x / 2 ^ n : Nat) : Int) ≠ 1 := by omega
    rw [beq_eq_false_iff_ne.2 this, beq_eq_false_iff_ne.2 h]
theorem digit_int (n x j : Nat) (hx : x < 1048576) (hj : j < n) : (Go.bits BinOp.and IntKind.i64 ((x : Int) / 2 ^ (n - 1 - j)) 1 == 1) = (digits n x)[j]'(by rw [digits_len]; exact hj) := by
  have h1 : x / 2 ^ (n - 1 - j) ≤ x := Nat.div_le_self _ _
  rw [shr_nat, show (1 : Int) = ((1 : Nat) : Int) from rfl, bits_and_nat _ 1 (by omega) (by omega), Nat.and_one_is_mod]
  simp only [digits, List.getElem_map, List.getElem_range]
  generalize x / 2 ^ (n - 1 - j) = y
  by_cases h : y % 2 = 1
  · simp [h]
  · have : y % 2 = 0 := by omega
    simp [this]
theorem se_ab (n : Nat) (tb : Bool) (w : World) : SeMade n tb w (.pointer (some ⟨w.heap.size + 1 + 1, 0, none⟩)) (((w.alloc (.cells #[.slice none 0 0, .bool false] 38)).alloc (.cells (bits (falses n)).toArray 4)).alloc (.cells #[.slice (some ⟨w.heap.size + 1, 0, none⟩) n n, .bool tb] 38)).drew := by
  refine ⟨w.heap.size + 1, w.heap.size + 1 + 1, rfl, by omega, Nat.le_refl _, by omega, by simp [World.drew], ?_, ?_, ?_, (below3 w _ _ _).drew⟩
  · exact (((Whole.fresh w _ _).alloc _).alloc _).drew
  · have h := Whole.fresh ((w.alloc (.cells #[.slice none 0 0, .bool false] 38)).alloc (.cells (bits (falses n)).toArray 4)) 38 #[.slice (some ⟨w.heap.size + 1, 0, none⟩) n n, .bool tb]
    simp only [World.size_alloc] at h
    exact h.drew
  · have h := (Whole.fresh (w.alloc (.cells #[.slice none 0 0, .bool false] 38)) 4 (bits (falses n)).toArray).alloc (.cells #[.slice (some ⟨w.heap.size + 1, 0, none⟩) n n, .bool tb] 38)
    simp only [World.size_alloc] at h
    exact h.drew
theorem se_ba (n : Nat) (tb : Bool) (w : World) : SeMade n tb w (.pointer (some ⟨w.heap.size + 1, 0, none⟩)) (((w.alloc (.cells #[.slice none 0 0, .bool false] 38)).alloc (.cells #[.slice (some ⟨w.heap.size + 1 + 1, 0, none⟩) n n, .bool tb] 38)).alloc (.cells (bits (falses n)).toArray 4)).drew := by
  refine ⟨w.heap.size + 1 + 1, w.heap.size + 1, rfl, by omega, by omega, Nat.le_refl _, by simp [World.drew], ?_, ?_, ?_, (below3 w _ _ _).drew⟩
  · exact (((Whole.fresh w _ _).alloc _).alloc _).drew
  · have h := (Whole.fresh (w.alloc (.cells #[.slice none 0 0, .bool false] 38)) 38 #[.slice (some ⟨w.heap.size + 1 + 1, 0, none⟩) n n, .bool tb]).alloc (.cells (bits (falses n)).toArray 4)
    simp only [World.size_alloc] at h
    exact h.drew
  · have h := Whole.fresh ((w.alloc (.cells #[.slice none 0 0, .bool false] 38)).alloc (.cells #[.slice (some ⟨w.heap.size + 1 + 1, 0, none⟩) n n, .bool tb] 38)) 4 (bits (falses n)).toArray
    simp only [World.size_alloc] at h
    exact h.drew

set_option maxHeartbeats 6400000 in
set_option maxRecDepth 100000 in
set_option linter.unusedSimpArgs false in
theorem seState_own (n x : Nat) (w : World) (hn : n ≤ 8) (hx : x < 1048576) :
    Calls Try.prog 109 #[.int .i64 x, .int .i64 n] w (fun e w' => ∃ (E : Option Addr) (r : Nat), e = .returned (.agg #[.slice E n r, .bool (topBit n x)]) ∧ Fresh w' w.heap.size w'.heap.size 4 E (bits (digits n x)) ∧ Below w.heap.size w w') := by
  obtain ⟨i0, hi, hz0, hz1, hz2⟩ := info_parts info_bool
  have hmk : ∀ W : World, (Instr.makeSlice 25 (.int .i64 (n : Int)) (.int .i64 (n : Int))).run Try.prog W = .ok (.slice (some ⟨W.heap.size, 0, none⟩) n n) (W.alloc (.cells (bits (falses n)).toArray 4)) := by
    intro W
    have h := run_make (P := Try.prog) W 25 4 i0 _ Try.underlying25 hi hz0 .i64 .i64 n n (by omega) (by omega) (by rw [hz2]; omega) (by omega)
    simp only [Int.toNat_natCast, hz1, made_falses] at h
    rw [h]
    rfl
  clear hi hz0 hz1 hz2
  have htb := top_int n x
  generalize topBit n x = tb at htb ⊢
  go_enter Try.func109, Try.ntmps109
  go_upto_region 1 with fail
  go_cut [5] (fun v wx => SeMade n tb w v wx)
  case first =>
    go_region_held3 (fun w' => True) (go_keep) (fail)
    all_goals (go_wp2_with fail; go_meet)
    all_goals first | exact se_ab n tb w | exact se_ba n tb w
  obtain ⟨gs, gb, rfl, hne, h1, h2, h3, hr, hsb, hsl, hb⟩ := hcut
  clear hmk htb
  obtain ⟨c0, c1, -, -⟩ := hsb.two
  go_wp2
  have HR := Lib.hid hr
  have HSB := Lib.hid hsb
  have HSL := Lib.hid hsl
  have HB := Lib.hid hb
  clear hr hsb hsl hb c0 c1
  go_loopw [17] (fun i wr => ∃ j : Nat, j ≤ n ∧ i = .int .i64 j ∧ Whole wr w.heap.size 38 #[.slice none 0 0, .bool false] ∧ Whole wr gb 38 #[.slice (some ⟨gs, 0, none⟩) n n, .bool tb] ∧ Whole wr gs 4 (filledB (digits n x) j) ∧ Below w.heap.size w wr) (fun i _ => n - (intOf i).toNat)
  case atStart => exact ⟨0, Nat.zero_le _, rfl, HR.out, HSB.out, by rw [show filledB (digits n x) 0 = (bits (falses n)).toArray by simp [filledB, digits_len, falses]]; exact HSL.out, HB.out⟩
  case round =>
    clear HR HSB HSL HB
    obtain ⟨j, hj, rfl, hr, hsb, hsl, hb⟩ := hrel
    by_cases hlt : j < n
    · obtain ⟨c0, c1, -, -⟩ := hsb.two
      have hnw : IntKind.i64.wrap ((n : Int) - 1) = (n : Int) - 1 := IntWalk.i64_in _ (by omega)
      have hnj : IntKind.i64.wrap ((n : Int) - 1 - (j : Int)) = ((n - 1 - j : Nat) : Int) := by rw [IntWalk.i64_in _ (by omega)]; omega
      have hlen : j < (digits n x).length := by rw [digits_len]; exact hlt
      have hcell := (hsl.cell j).trans (filledB_at (digits n x) hlen)
      have hfr := hsl.open_ j
      have hji : (j : Int) < (n : Int) := by omega
      have hsl0 := hsl.lt
      have hbit := digit_int n x j hx hlt
      have HNX := Lib.hid (filledB_next (digits n x) hlen)
      have HR := Lib.hid hr
      have HSB := Lib.hid hsb
      have HSL := Lib.hid hsl
      have HB := Lib.hid hb
      have hrl := hr.lt
      clear hr hsb hsl hb
      generalize (digits n x)[j] = b at hbit HNX
      go_wp2_with fail
      go_region_held3 (fun w' => w'.cell? ⟨gb, 0, none⟩ = some (.slice (some ⟨gs, 0, none⟩) n n)) (go_keep) (fail)
      go_wp2
      go_roundw
      case rel => exact ⟨j + 1, by omega, by go_num, (HR.out.off (by omega)).drew, (HSB.out.off (fun h => hne h.symm)).drew, (by have h := HSL.out.set_ j (.bool b); rw [HNX.out] at h; exact h.drew), (below_set HB.out (by omega)).drew⟩
      case measure => simp [intOf]; omega
    · obtain rfl : j = n := by omega
      have hd : decide ((j : Int) < (j : Int)) = false := by simp
      obtain ⟨d0, d1, -, -⟩ := hsb.two
      obtain ⟨e0, e1, f0, f1⟩ := hr.two
      have hl1 := hr.lt
      have hsl' : Whole wr gs 4 (bits (digits j x)).toArray := by
        have h := filledB_done (digits j x)
        rw [digits_len] at h
        rw [← h]
        exact hsl
      have HF := Lib.hid (Fresh.of_whole (lo := w.heap.size) (hi := wr.heap.size) ((hsl'.off (b := w.heap.size) (o := 0) (u := .slice (some ⟨gs, 0, none⟩) j j) (by omega)).off (b := w.heap.size) (o := 1) (u := .bool tb) (by omega)) (by omega) hsl'.lt)
      have HB := Lib.hid (below_set (b := w.heap.size) (o := 1) (u := .bool tb) (below_set (b := w.heap.size) (o := 0) (u := .slice (some ⟨gs, 0, none⟩) j j) hb (Nat.le_refl _)) (Nat.le_refl _))
      clear hr hsb hsl hsl' hb
      go_wp2
      refine bodyPost_ret (v := .agg #[.slice (some ⟨gs, 0, none⟩) j j, .bool tb]) (by simp [results, Try.results109, go_sem, e0, e1]) rfl ⟨some ⟨gs, 0, none⟩, j, rfl, ?_, HB.out⟩
      have h := HF.out
      simpa [World.setCell] using h
end Go.Proofs.Ytkocompjjogciaa

namespace Go.Proofs.Ytkocompjjogciaa
open Go.RowKit

/-- A slice of the call's own whose first element may lie anywhere in its block. -/
def Win (w : World) (base : Nat) (e : TypeId) (size : Nat) (v : Value) (n : Nat) (xs : List Value) : Prop :=
  xs.length = n * size ∧ ∃ g o cap cur, v = .slice (some ⟨g, o, none⟩) n cap ∧ base ≤ g ∧ w.heap[g]? = some (.cells cur e (0, 0)) ∧ n ≤ cap ∧ cap ≤ maxLen ∧ o + cap * size ≤ cur.size ∧ (cur.toList.drop o).take (n * size) = xs

section
variable {w w' : World} {base n size : Nat} {e : TypeId} {v : Value} {xs : List Value}
theorem Win.below (h : Win w base e size v n xs) (hb : Below w.heap.size w w') : Win w' base e size v n xs := by
  obtain ⟨h1, g, o, cap, cur, h2, h3, h4, r⟩ := h
  exact ⟨h1, g, o, cap, cur, h2, h3, (hb.block g (Array.getElem?_eq_some_iff.1 h4).1).trans h4, r⟩
theorem Win.kept {row : Option Nat} (h : Win w base e size v n xs) (hg : w.grownBy w' row) (hne : v.ownBlock ≠ row) : Win w' base e size v n xs := by
  obtain ⟨h1, g, o, cap, cur, rfl, h3, h4, r⟩ := h
  exact ⟨h1, g, o, cap, cur, rfl, h3, (hg.block g (Array.getElem?_eq_some_iff.1 h4).1 hne).trans h4, r⟩
theorem Win.alloc (h : Win w base e size v n xs) (o : Obj) : Win (w.alloc o) base e size v n xs := h.below (below1 w o)
theorem Win.drew (h : Win w base e size v n xs) : Win w.drew base e size v n xs := h
theorem Win.off {b o : Nat} {u : Value} (h : Win w base e size v n xs) (hb : b < base) : Win (w.setCell ⟨b, o, none⟩ u) base e size v n xs := by
  obtain ⟨h1, g, o', cap, cur, h2, h3, h4, r⟩ := h
  exact ⟨h1, g, o', cap, cur, h2, h3, (Below.heap_setCell w ⟨b, o, none⟩ u g (by show g ≠ b; omega)).trans h4, r⟩
theorem Win.lt (h : Win w base e size v n xs) : ∀ k, v.ownBlock = some k → base ≤ k ∧ k < w.heap.size := by
  obtain ⟨h1, g, o, cap, cur, rfl, h3, h4, r⟩ := h
  intro k hk
  obtain rfl : g = k := by simpa [Value.ownBlock] using hk
  exact ⟨h3, (Array.getElem?_eq_some_iff.1 h4).1⟩
theorem Win.cellAt (h : Win w base e size v n xs) : ∃ g o cap, v = .slice (some ⟨g, o, none⟩) n cap ∧ base ≤ g ∧ g < w.heap.size ∧ n ≤ cap ∧ cap ≤ maxLen ∧ ∀ j u, xs[j]? = some u → w.cell? ⟨g, o + j, none⟩ = some u := by
  obtain ⟨h1, g, o, cap, cur, rfl, h3, h4, h5, h6, h7, h8⟩ := h
  refine ⟨g, o, cap, rfl, h3, (Array.getElem?_eq_some_iff.1 h4).1, h5, h6, fun j u hu => ?_⟩
  rw [← h8, List.getElem?_take] at hu
  split at hu
  · rw [List.getElem?_drop] at hu
    simp only [World.cell?, h4]
    simpa using hu
  · cases hu
/-- The first element is cut off. -/
def cutV (g o n cap size : Nat) : Value := .slice (some (if cap = 1 then ⟨g, o, none⟩ else ⟨g, o + size, none⟩)) n (cap - 1)
theorem Win.cut {g o cap : Nat} {x ys : List Value} (h : Win w base e size (.slice (some ⟨g, o, none⟩) (n + 1) cap) (n + 1) (x ++ ys)) (hx : x.length = size) : Win w base e size (cutV g o n cap size) n ys := by
  obtain ⟨h1, g', o', cap', cur, hv, h3, h4, h5, h6, h7, h8⟩ := h
  obtain ⟨⟨rfl, rfl⟩, rfl⟩ : (g = g' ∧ o = o') ∧ cap = cap' := by simpa using hv
  have hl : ys.length = n * size := by rw [List.length_append, hx, Nat.add_mul] at h1; omega
  have hys : (cur.toList.drop (o + size)).take (n * size) = ys := by
    have h9 := congrArg (List.drop size) h8
    rw [List.drop_left' hx, List.drop_take, List.drop_drop] at h9
    rw [← h9, show (n + 1) * size - size = n * size by rw [Nat.add_mul]; omega]
  by_cases hc : cap = 1
  · subst hc
    obtain rfl : n = 0 := by omega
    obtain rfl : ys = [] := List.eq_nil_of_length_eq_zero (by omega)
    exact ⟨by simp, g, o, 0, cur, by simp [cutV], h3, h4, Nat.le_refl _, by unfold maxLen; omega, by omega, by simp⟩
  · have e1 : (cap - 1) * size + size = cap * size := by
      obtain ⟨c, rfl⟩ : ∃ c, cap = c + 1 := ⟨cap - 1, by omega⟩
      rw [Nat.add_sub_cancel, Nat.add_mul]; omega
    exact ⟨hl, g, o + size, cap - 1, cur, by simp [cutV, hc], h3, h4, by omega, by omega, by omega, hys⟩
end
theorem Win.made (w : World) (base : Nat) (e : TypeId) (cs : Array Value) (hb : base ≤ w.heap.size) : Win (w.alloc (.cells cs e)) base e cs.size (.slice (some ⟨w.heap.size, 0, none⟩) 1 1) 1 cs.toList :=
  ⟨by simp, w.heap.size, 0, 1, cs, rfl, hb, Whole.fresh w e cs, Nat.le_refl _, by unfold maxLen; omega, by simp, by rw [Nat.one_mul, List.drop_zero, List.take_of_length_le (by simp)]⟩

theorem add_at (g o j : Nat) : (⟨g, o, none⟩ : Addr).add j = ⟨g, o + j, none⟩ := by unfold Addr.add; split <;> simp_all
theorem add_at0 (g o : Nat) (spot : Option Nat) (h : spot = none) (j : Nat) : (⟨g, o, spot⟩ : Addr).add j = ⟨g, o + j, none⟩ := by subst h; exact add_at g o j

theorem run_append_win {P : Program} (w : World) (base : Nat) (t ty e : TypeId) (i : TypeInfo) (z : Value) (size bytes : Nat) (ht : P.underlying t = some (.slice e)) (hi : P.info? e = some i) (hz : i.zero = some z)
    (hsize : i.size = size) (hby : i.bytes = bytes) (hzs : z.cells.size = size) (v : Value) (n : Nat) (xs : List Value) (hown : Win w base e size v n xs)
    (a : Addr) (m c : Nat) (news : List Value) (hl : news.length = m * size) (hnews : ∀ j u, news[j]? = some u → w.cell? (a.add j) = some u) (h1 : ∀ u ∈ news, u.oneCell' = true)
    (h63 : n + m ≤ maxLen) (hbytes : (n + m) * bytes ≤ 140737488355328) (hbase : base ≤ w.heap.size) :
    ∃ v' w', (Builtin.append_ #[t, t] ty #[v, .slice (some a) m c]).run P w = .ok v' w' ∧ Win w' base e size v' (n + m) (xs ++ news) ∧ w.grownBy w' v.ownBlock ∧ (v'.ownBlock = v.ownBlock ∨ v'.ownBlock = some w.heap.size) := by
  subst hsize hby
  have hlt : n + m ≤ 9223372036854775807 := by simp only [maxLen] at h63; omega
  have hlen : (xs ++ news).length = (n + m) * i.size := by rw [List.length_append, hown.1, hl, Nat.add_mul]
  obtain ⟨g, o, cap, hv, hbg, hgl, -, -, hcell⟩ := hown.cellAt
  obtain ⟨hxl, g', o', cap', cur, hv', -, hg, hnc, hcm, hcs, htake⟩ := hown
  subst hv
  obtain ⟨⟨rfl, rfl⟩, rfl⟩ : (g = g' ∧ o = o') ∧ cap = cap' := by simpa using hv'
  by_cases hroom : n + m ≤ cap
  · have hm2 : (n + m) * i.size ≤ cap * i.size := Nat.mul_le_mul_right _ hroom
    rw [Nat.add_mul] at hm2
    have hfit : o + n * i.size + 0 + news.length ≤ cur.size := by rw [hl]; omega
    have hf := run_firstCells_some (P := P) w i.size m a m c news hl hnews
    have hst := run_storeCells_at P g (o + n * i.size) e news 0 cur w hg hfit h1
    rw [Nat.add_zero] at hst
    refine ⟨.slice (some ⟨g, o, none⟩) (n + m) cap, w.setRow g (cur.toList.take (o + n * i.size) ++ news ++ cur.toList.drop (o + n * i.size + news.length)).toArray, ?_, ⟨hlen, g, o, cap, _, rfl, hbg, setRow_heap w g cur _ e _ hg, hroom, hcm, ?_, ?_⟩, ⟨rfl, rfl, rfl, by simp, fun k _ hk => setRow_other w g k _ (fun e => hk (by simp [Value.ownBlock, e]))⟩, .inl rfl⟩
    · simp [Builtin.append_, run_underlying ht, sizeOf, typeInfo, hi, Builtin.lenOf, hroom, hf, add_at, hst]
    · simp only [List.size_toArray, List.length_append, List.length_take, List.length_drop, Array.length_toList]
      omega
    · have hcl : o + n * i.size ≤ cur.toList.length := by simp; omega
      have e1 : cur.toList.take (o + n * i.size) = cur.toList.take o ++ xs := by rw [List.take_add, htake]
      rw [e1, List.append_assoc, List.append_assoc, List.drop_append_of_le_length (by simp; omega), List.drop_of_length_le (by simp; omega), List.nil_append, ← List.append_assoc, ← hlen]
      exact List.take_left
  · have holds : ∀ j u, xs[j]? = some u → w.cell? ((⟨g, o, none⟩ : Addr).add j) = some u := fun j u hu => by rw [add_at]; exact hcell j u hu
    have hr := run_append_grow (P := P) w t ty e i z ht hi hz ⟨g, o, none⟩ n cap xs hxl holds a m c news hl hnews (by omega) (by omega) (growslice_fits (by omega) hbytes)
    have hge := grownCap_ge w (n + m) cap e
    have hcm2 : grownCap w (n + m) cap e ≤ maxLen := grownCap_le_maxLen w (n + m) cap e h63
    refine ⟨_, _, hr, ⟨hlen, w.heap.size, 0, _, _, rfl, hbase, heap_alloc_new w.drew _, hge, hcm2, ?_, ?_⟩, ⟨rfl, rfl, rfl, by simp, fun k hk _ => Below.heap_alloc w.drew _ k hk⟩, .inr rfl⟩
    · have e2 : (n + m) * i.size + (grownCap w (n + m) cap e - (n + m)) * i.size = grownCap w (n + m) cap e * i.size := by rw [← Nat.add_mul]; congr 1; omega
      simp only [Array.size_append, List.size_toArray, size_zeroCells, hzs, hxl, hl, Nat.zero_add]
      rw [Nat.add_mul] at e2
      omega
    · simp only [Array.toList_append, List.append_assoc, List.drop_zero]
      rw [← List.append_assoc, ← hlen]
      exact List.take_left

theorem wpList_append_win {P : Program} (w : World) {ops : Array Oper} {rest : List Oper} {o : Oper} {a : Act} {Q : Exit → Act → World → Prop} (hgd : o.guard = none) (s x : Operand) (t : TypeId)
    (ho : o.op = .call { callee := .builtin .append, args := #[s, x], argTypes := #[t, t] })
    (base : Nat) (e : TypeId) (i : TypeInfo) (z : Value) (size bytes : Nat) (ht : P.underlying t = some (.slice e)) (hi : P.info? e = some i) (hz : i.zero = some z)
    (hsize : i.size = size) (hby : i.bytes = bytes) (hzs : z.cells.size = size) (v : Value) (n : Nat) (xs : List Value) (hs : a.eval s = v) (hown : Win w base e size v n xs)
    (ad : Addr) (m c : Nat) (news : List Value) (hx : a.eval x = .slice (some ad) m c) (hl : news.length = m * size) (hnews : ∀ j u, news[j]? = some u → w.cell? (ad.add j) = some u) (h1 : ∀ u ∈ news, u.oneCell' = true)
    (h63 : n + m ≤ maxLen) (hbytes : (n + m) * bytes ≤ 140737488355328) (hbase : base ≤ w.heap.size)
    (h : ∀ v' w', Win w' base e size v' (n + m) (xs ++ news) → w.grownBy w' v.ownBlock → (v'.ownBlock = v.ownBlock ∨ v'.ownBlock = some w.heap.size) → wpList P ops Q rest (a.put o.dst v') w') : wpList P ops Q (o :: rest) a w := by
  refine wpList_plain hgd fun K hK => ?_
  obtain ⟨v', w', hr, h2, h3, h4⟩ := run_append_win (P := P) w base t o.type e i z size bytes ht hi hz hsize hby hzs v n xs hown ad m c news hl hnews h1 h63 hbytes hbase
  unfold Oper.wp execOp
  simp only [ho, resolve, invoke, builtin, Sem.run_bind, Sem.run_pure, Result.andThen_ok, List.map_toArray, List.map_cons, List.map_nil, hs, hx, hr]
  exact hK _ _ (h v' w' h2 h3 h4)
theorem run_cut {P : Program} (W : World) (t e : TypeId) (size : Nat) (g o n cap : Nat) (ht : P.underlying t = some (.slice e)) (he : P.elem t = e) (hs : (P.info? e).map (·.size) = some size) (hn : n + 1 ≤ cap) :
    (Instr.sliceAt t (.slice (some ⟨g, o, none⟩) (n + 1) cap) (some (.int .i64 1)) none none).run P W = .ok (cutV g o n cap size) W := by
  cases hq : P.info? e with
  | none => simp [hq] at hs
  | some i =>
    have hi : i.size = size := by simpa [hq] using hs
    subst he
    have h0 := run_slice_l (P := P) W t (some ⟨g, o, none⟩) (n + 1) cap ht .i64 1 (by omega) (by omega)
    rw [run_sliceAt_slice W t _ _ _ _ ht, h0]
    by_cases hc : cap = 1
    · subst hc
      simp [sizeOf, typeInfo, hq, hi, cutV, sliced, Result.andThen]
    · have hc2 : ¬ (1 = cap) := fun h => hc h.symm
      simp [sizeOf, typeInfo, hq, hi, cutV, sliced, Result.andThen, hc, hc2, add_at]
end Go.Proofs.Ytkocompjjogciaa
