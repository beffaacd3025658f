/-
  What is proved: contracts of the model's and the library's search for a number in a list. Conditions: the list is read as it lies.
  What is proved: a contract of the model's IsCalmPlan. Conditions: the arguments are read as they lie.
  What is proved: the contract of the program's test whether lists lead over, for rivers of crews. Conditions: the lists are read as they lie.
  What is proved: the contract of the model's cost of a ride. Conditions: a crew of at most seven people; the ride is a list of them.
  What is proved: maps of numbers whose keys come out of a finite list, told by what they hold at each key: made, looked up, stored into, deleted from, counted, ranged over. Conditions: as each says.
  What is proved: maps of numbers told by what they hold at each key: a look-up as an equation, a store and a literal's entry as laws of one operation. Conditions: as each says.
  What is proved: the contract of trips made one after the other by the model, with the place of the state behind them. Conditions: the arguments are read as they lie; there is somebody.
  What is proved: contracts of the model's test of a plan. Conditions: the lists are read as they lie; one to eight people.
  What is proved: contracts of both IsCrewPlan. Conditions: the arguments are read as they lie.
  What is proved: a contract of the program's RideWithCrew. Conditions: the arguments are read as they lie.
  What is proved: a contract of the model's RowBoat. Conditions: the arguments are read as they lie.
  What is proved: a contract of the model's RowsOf. Conditions: the arguments are read as they lie.
  What is proved: a contract of the program's RowsOf. Conditions: the arguments are read as they lie.
  What is proved: a contract of the program's RidesOfCrew. Conditions: the arguments are read as they lie.
  What is proved: contracts of the model's rides in a state and of its RidesOfCrew. Conditions: the arguments are read as they lie.
  What is proved: the contract of the model's number of a state. Conditions: at most eight people.
  What is proved: the contract of the model's state with a number. Conditions: at most eight people; a number below 1,048,576.
  What is proved: a round of the program's search, on what is reached and what waits as functions of places, is a round of a search. Conditions: as each says.
  What is proved: laws of a slice of the call's own that may begin anywhere in its row (a queue that is cut at its head): what is appended to it, how its head is cut off. Conditions: as each says.
-/
import Derived.Maps.RangeWalk
import Derived.Maps.Ext
import Derived.Deep.QuietTactic
import Derived.BigQuiet
import Derived.Deep.DeepCutAuto
import Derived.Deep.RegionHeld3
import Derived.Deep.AppendLies
import Derived.Test.YtlpeimlbpiofkaaJ4FewestOfCrew
set_option linter.unusedSimpArgs false
set_option linter.unusedVariables false
namespace Go.Proofs.Ytlpeimlbpiofkaa
open Go.RowKit

def hasK (l : List Int) (x : Int) : Bool := l.contains x

set_option maxHeartbeats 800000 in
theorem l1Has_any (A : Option Addr) (n c : Nat) (l : List Int) (x : Int) (w : World) (hA : Holds w A (nums l)) (hx : l.length = n) (hn : n ≤ 1048576) :
    Calls Try.prog 75 #[.slice A n c, .int .i64 x] w fun e w' => e = .returned (.bool (hasK l x)) ∧ w = w' := by
  subst hx
  go_enter Try.func75, Try.ntmps75
  go_wp2
  go_loop [9] (fun i => ∃ j : Nat, j ≤ l.length ∧ i = .int .i64 j ∧ ∀ q (hq : q < l.length), q < j → l[q] ≠ x) (fun i => l.length - (intOf i).toNat)
  case atStart => exact ⟨0, Nat.zero_le _, rfl, fun q _ h => by omega⟩
  case round =>
    obtain ⟨j, hj, rfl, hs⟩ := hrel
    by_cases hlt : j < l.length
    · obtain ⟨b, o, rfl, hb, hc⟩ := hA.look (k := j) (by simpa [nums] using hlt)
      simp only [nums, List.getElem_map] at hc
      by_cases he : l[j] = x
      · have HQ : Hid (hasK l x = true) := by show l.contains x = _; rw [List.contains_iff_mem, ← he]; exact List.getElem_mem hlt
        have hbe : (l[j] == x) = true := by simp [he]
        clear he hs
        go_wp2
        go_ret
        exact ⟨ret_of (by rw [HQ.out]; rfl), rfl⟩
      · have hbe : (l[j] == x) = false := by simp [he]
        have HE := Lib.hid he
        have HS := Lib.hid hs
        clear he hs
        go_wp2
        go_round
        case rel => exact ⟨j + 1, by omega, by go_num, fun q hq h => by
          rcases Nat.lt_succ_iff_lt_or_eq.1 h with h | rfl
          · exact HS.out q hq h
          · exact HE.out⟩
        case measure => simp [intOf]; omega
    · have HQ : Hid (hasK l x = false) := by
        show l.contains x = _
        rw [Bool.eq_false_iff]
        intro h
        obtain ⟨q, hq, he⟩ := List.getElem_of_mem (List.contains_iff_mem.1 h)
        exact hs q hq (by omega) he
      clear hs
      go_wp2
      go_ret
      exact ⟨ret_of (by rw [HQ.out]; rfl), rfl⟩

def NoneI (bs : List Int) (t : Int) (k : Nat) : Prop := ∀ j (h : j < bs.length), j < k → bs[j] ≠ t
theorem NoneI.next {bs : List Int} {t : Int} {k : Nat} (h : NoneI bs t k) (hk : k < bs.length) (hne : bs[k] ≠ t) : NoneI bs t (k + 1) := fun j hj hlt => by
  rcases (show j < k ∨ j = k by omega) with h1 | h1
  · exact h j hj h1
  · subst h1
    exact hne
def IndexI (bs : List Int) (t : Int) (w : World) (e : Ending) (w' : World) : Prop := ∃ r : Int, e = .returned (.int .i64 r) ∧ decide (0 ≤ r) = bs.any (· == t) ∧ w = w'

end Go.Proofs.Ytlpeimlbpiofkaa

namespace Go.Proofs.Ytlpeimlbpiofkaa
open Go.RowKit

/-- What IsCalmPlan hands back. -/
def TwoTold (a b : Bool) (w : World) (e : Ending) (w' : World) : Prop := e = .returned (.tuple #[.bool a, .bool b]) ∧ Below w.heap.size w w'
def cpOk (a b : Int) (ls : List (List Int)) : Bool := isCo a b && decide (ls.length ≤ 40)
noncomputable def isCP (a b : Int) (ls : List (List Int)) : Bool := cpOk a b ls && planM a.toNat b (2 * 2 ^ (2 * a.toNat) - 1) 0 ls
theorem cp_no {a b : Int} {ls : List (List Int)} (h : isCo a b = false ∨ 40 < ls.length) : cpOk a b ls = false ∧ isCP a b ls = false := by
  have h0 : cpOk a b ls = false := by
    rcases h with h | h
    · simp [cpOk, h]
    · simp [cpOk]; omega
  exact ⟨h0, by simp [isCP, h0]⟩
theorem cp_yes {k : Nat} {b : Int} {ls : List (List Int)} (h : isCo k b = true) (h40 : ls.length ≤ 40) : cpOk k b ls = true ∧ isCP k b ls = planM k b (2 * 2 ^ (2 * k) - 1) 0 ls := by
  have h0 : cpOk k b ls = true := by simp [cpOk, h, h40]
  exact ⟨h0, by simp [isCP, h0]⟩

end Go.Proofs.Ytlpeimlbpiofkaa

namespace Go.Proofs.Ytlpeimlbpiofkaa
open Go.RowKit

/-- Do lists, from a place on, lead over by rides? -/
def playW (p : Nat) (L : List (List Int)) : List Bool → Bool → List (List Int) → Bool
  | bs, t, [] => sameBits bs (trues p) && t
  | bs, t, l :: ls => decide (l ∈ ridesAt bs t L) && playW p L (flipped bs l) (!t) ls
theorem playW_stop {p : Nat} {L : List (List Int)} {bs : List Bool} {t : Bool} {ls : List (List Int)} {j : Nat} (hj : j < ls.length) (h : ls[j] ∉ ridesAt bs t L) : playW p L bs t (ls.drop j) = false := by
  rw [List.drop_eq_getElem_cons hj, playW, decide_eq_false h]; rfl
theorem playW_next {p : Nat} {L : List (List Int)} {bs : List Bool} {t : Bool} {ls : List (List Int)} {j : Nat} (hj : j < ls.length) (h : ls[j] ∈ ridesAt bs t L) : playW p L bs t (ls.drop j) = playW p L (flipped bs ls[j]) (!t) (ls.drop (j + 1)) := by
  rw [List.drop_eq_getElem_cons hj, playW, decide_eq_true h]; rfl

end Go.Proofs.Ytlpeimlbpiofkaa

namespace Go.Proofs.Ytlpeimlbpiofkaa
open Go.RowKit

/-- What a ride costs: its load, or one. -/
def costOf (xs : List Int) (b : Bool) (l : List Int) : Int := if b then loadOf xs l else 1

set_option maxHeartbeats 1600000 in
set_option linter.unusedSimpArgs false in
theorem loCost_any (A : Option Addr) (n c : Nat) (B : Option Addr) (m d : Nat) (xs : List Int) (s : Int) (D : Option Addr) (q z : Nat) (l : List Int) (b : Bool) (w : World) (hA : Holds w A (nums xs)) (hD : Holds w D (nums l)) (hx : xs.length = n) (hz : l.length = q) (hn : n ≤ 7) (hq : q ≤ 9223372036854775807) (hw : ∀ y ∈ xs, 1 ≤ y ∧ y ≤ 500) (hl : ∀ y ∈ l, 0 ≤ y ∧ y < n) (hq8 : q ≤ 8) :
    Calls Try.prog 134 #[.agg #[.slice A n c, .slice B m d, .int .i64 s], .slice D q z, .bool b] w fun e w' => e = .returned (.int .i64 (costOf xs b l)) ∧ Below w.heap.size w w' := by
  have HX := Lib.hid hx
  have HZ := Lib.hid hz
  have HW := Lib.hid hw
  have HL := Lib.hid hl
  clear hx hz hw hl
  have hc := Whole.fresh w 57 #[.slice A n c, .slice B m d, .int .i64 s]
  have ht := below1 w (.cells #[.slice A n c, .slice B m d, .int .i64 s] 57)
  obtain ⟨c0, c1, c2⟩ := hc.cells3
  go_enter Try.func134, Try.ntmps134
  cases b
  · go_wp2
    go_ret
    exact ⟨rfl, ht⟩
  · go_wp2_with fail
    refine (loLoad_any A n c B m d xs s D q z l _ (hA.below ht) (hD.below ht) HX.out HZ.out hn hq HW.out HL.out hq8).mono ?_
    rintro e w1 ⟨rfl, hb⟩
    replace ht := below_then ht hb (by simp)
    go_wp2
    go_ret
    exact ⟨rfl, ht⟩
end Go.Proofs.Ytlpeimlbpiofkaa

namespace Go.Proofs.Ytlpeimlbpiofkaa
open Go.RowKit Go.Maps Go.WideShapes

/-- Keys of type k: each a of the list dom stands as the value val a and reads as lit a. -/
structure KeyT (P : Program) (k : TypeId) {α : Type} (val : α → Value) (lit : α → Lit) (dom : List α) : Prop where
  law : Keyed P k
  reads : ∀ a ∈ dom, keyOf P k (val a) = some (lit a)
  inj : ∀ a ∈ dom, ∀ b ∈ dom, lit a = lit b → a = b

/-- What is read holds just what M says. -/
structure ReadsAs {H α : Type} (lit : α → Lit) (dom : List α) (D : DataW H) (M : α → Option Int) : Prop where
  keys : ∀ kl, Go.Maps.has D kl = true → ∃ a, a ∈ dom ∧ kl = lit a
  out : ∀ a, M a ≠ none → a ∈ dom
  there : ∀ a, a ∈ dom → Go.Maps.has D (lit a) = (M a).isSome
  at_ : ∀ a c, M a = some c → ∀ z, D.atKey (lit a) z = .lit (.int .i64 c)

theorem nodup_le {β : Type} : ∀ (l m : List β), l.Nodup → (∀ x ∈ l, x ∈ m) → l.length ≤ m.length := by
  intro l
  induction l with
  | nil => intro m _ _; simp
  | cons x l ih =>
    intro m hn hs
    obtain ⟨h1, h2⟩ := List.nodup_cons.1 hn
    obtain ⟨s, t, rfl⟩ := List.append_of_mem (hs x (by simp))
    have := ih (s ++ t) h2 fun y hy => by
      have hy2 := hs y (by simp [hy])
      have hne : y ≠ x := fun e => h1 (e ▸ hy)
      simp only [List.mem_append, List.mem_cons] at hy2 ⊢
      rcases hy2 with h | h | h
      · exact .inl h
      · exact absurd h hne
      · exact .inr h
    simp only [List.length_cons, List.length_append] at this ⊢
    omega

section
variable {H α : Type} {P : Program} {k e : TypeId} {val : α → Value} {lit : α → Lit} {dom : List α} {D : DataW H} {M : α → Option Int}

theorem ReadsAs.size_le {n b : Nat} {w : World} {R : Value → Option (DataW H × List MemPlace)} (h : ReadsAs lit dom D M) (K : Keyed P k) (ho : w.ownsMap P k R b n D) : Maps.size D ≤ dom.length := by
  obtain ⟨es, rfl, hp, hk⟩ := ho.entries K
  have h1 : (es.map (·.1)).length ≤ (dom.map lit).length := by
    refine nodup_le _ _ ?_ ?_
    · rw [List.Nodup, List.pairwise_map]
      exact hp
    · intro x hx
      obtain ⟨p, hp, rfl⟩ := List.mem_map.1 hx
      obtain ⟨a, ha, hl⟩ := h.keys p.1 (List.any_eq_true.2 ⟨p, hp, WideAt.sameKey_self (hk p hp)⟩)
      exact List.mem_map.2 ⟨a, ha, hl.symm⟩
  simpa [Maps.size] using h1

theorem owns_tight {n b : Nat} {w : World} {R : Value → Option (DataW H × List MemPlace)} (ho : w.ownsMap P k R b n D) : w.ownsMap P k R b (Maps.size D) D := by
  obtain ⟨es, clock, hb, F, hs, rfl⟩ := ho
  exact ⟨es, clock, hb, F, by simp [Maps.size, length_sorted], rfl⟩

/-- M with c at a. -/
noncomputable def upd (M : α → Option Int) (a : α) (c : Int) : α → Option Int := fun x => open Classical in if x = a then some c else M x
/-- M without a. -/
noncomputable def del (M : α → Option Int) (a : α) : α → Option Int := fun x => open Classical in if x = a then none else M x
theorem upd_same (M : α → Option Int) (a : α) (c : Int) : upd M a c a = some c := by simp [upd]
theorem upd_other (M : α → Option Int) {a x : α} (c : Int) (h : x ≠ a) : upd M a c x = M x := by simp [upd, h]
theorem del_same (M : α → Option Int) (a : α) : del M a a = none := by simp [del]
theorem del_other (M : α → Option Int) {a x : α} (h : x ≠ a) : del M a x = M x := by simp [del, h]

theorem ReadsAs.empty : ReadsAs lit dom (.map [] : DataW H) (fun _ => none) :=
  ⟨fun kl h => (by cases h), fun a h => absurd rfl h, fun a _ => rfl, fun a c h => (by cases h)⟩

theorem ReadsAs.put (h : ReadsAs lit dom D M) (K : KeyT P k val lit dom) (hD : IsMap D) {a : α} (ha : a ∈ dom) (c : Int) : ReadsAs lit dom (D.put (lit a) (.lit (.int .i64 c))) (upd M a c) := by
  have hk := K.law.key (K.reads a ha)
  refine ⟨fun kl hkl => ?_, fun x hx => ?_, fun x hx => ?_, fun x c' hx z => ?_⟩
  · by_cases e : kl = lit a
    · exact ⟨a, ha, e⟩
    · rw [has_put_other e] at hkl
      exact h.keys kl hkl
  · by_cases e : x = a
    · subst e; exact ha
    · rw [upd_other M c e] at hx
      exact h.out x hx
  · by_cases e : x = a
    · subst e
      rw [has_put_same hD hk, upd_same]
      rfl
    · rw [has_put_other (fun e2 => e (K.inj x hx a ha e2)), upd_other M c e, h.there x hx]
  · by_cases e : x = a
    · subst e
      rw [upd_same] at hx
      rw [atKey_put_same hD hk, Option.some.inj hx]
    · rw [upd_other M c e] at hx
      rw [atKey_put_other (fun e2 => e (K.inj x (h.out x (by rw [hx]; simp)) a ha e2)), h.at_ x c' hx z]

theorem ReadsAs.drop (h : ReadsAs lit dom D M) (K : KeyT P k val lit dom) {a : α} (ha : a ∈ dom) : ReadsAs lit dom (D.del (lit a)) (del M a) := by
  refine ⟨fun kl hkl => ?_, fun x hx => ?_, fun x hx => ?_, fun x c' hx z => ?_⟩
  · by_cases e : kl = lit a
    · exact ⟨a, ha, e⟩
    · rw [has_del_other e] at hkl
      exact h.keys kl hkl
  · by_cases e : x = a
    · subst e; exact ha
    · rw [del_other M e] at hx
      exact h.out x hx
  · by_cases e : x = a
    · subst e
      rw [has_del_same, del_same]
      rfl
    · rw [has_del_other (fun e2 => e (K.inj x hx a ha e2)), del_other M e, h.there x hx]
  · by_cases e : x = a
    · subst e
      rw [del_same] at hx
      cases hx
    · rw [del_other M e] at hx
      rw [atKey_del_other (fun e2 => e (K.inj x (h.out x (by rw [hx]; simp)) a ha e2)), h.at_ x c' hx z]
end

/-- Block b of the world is a map of numbers that holds just what M says. -/
def MapIs (P : Program) (k e : TypeId) {α : Type} (lit : α → Lit) (dom : List α) (w : World) (b : Nat) (M : α → Option Int) : Prop :=
  ∃ D : DataW Unit, w.ownsMap P k (plainElem P e) b dom.length D ∧ ReadsAs lit dom D M

/-- A loop over it: left tells which keys are still to come. -/
def RangeIs (P : Program) (k e : TypeId) {α : Type} (lit : α → Lit) (dom : List α) (w : World) (b r : Nat) (M : α → Option Int) (left : α → Bool) : Prop :=
  ∃ (D : DataW Unit) (left0 : Lit → Bool) (cnt : Nat), w.ranges P k (plainElem P e) b r dom.length D left0 cnt ∧ ReadsAs lit dom D M ∧ (∀ a, a ∈ dom → left0 (lit a) = left a) ∧ (∀ kl, left0 kl = true → Go.Maps.has D kl = true) ∧ (∀ a, left a = true → a ∈ dom)

section
variable {α : Type} {P : Program} {k e : TypeId} {val : α → Value} {lit : α → Lit} {dom : List α} {M : α → Option Int} {w : World} {b r : Nat} {left : α → Bool}

theorem MapIs.lt (h : MapIs P k e lit dom w b M) : b < w.heap.size := by obtain ⟨D, ho, -⟩ := h; exact ho.lt
theorem MapIs.kept {w' : World} {row : Option Nat} (h : MapIs P k e lit dom w b M) (hg : w.grownBy w' row) (hne : some b ≠ row) : MapIs P k e lit dom w' b M := by
  obtain ⟨D, ho, hr⟩ := h; exact ⟨D, ho.kept hg hne, hr⟩
theorem MapIs.alloc (h : MapIs P k e lit dom w b M) (o : Obj) : MapIs P k e lit dom (w.alloc o) b M := by
  obtain ⟨D, ho, hr⟩ := h; exact ⟨D, ho.alloc o, hr⟩
theorem MapIs.below {w' : World} (h : MapIs P k e lit dom w b M) (hb : Below w.heap.size w w') : MapIs P k e lit dom w' b M := by
  have hl := h.lt
  obtain ⟨D, ⟨es, clock, hh, r⟩, hr⟩ := h
  exact ⟨D, ⟨es, clock, (hb.block b hl).trans hh, r⟩, hr⟩
theorem MapIs.out (h : MapIs P k e lit dom w b M) {a : α} (ha : M a ≠ none) : a ∈ dom := by obtain ⟨D, -, hr⟩ := h; exact hr.out a ha
theorem MapIs.made (w : World) (P : Program) (k e : TypeId) (lit : α → Lit) (dom : List α) : MapIs P k e lit dom (w.alloc (.map #[] 0)) w.heap.size (fun _ => none) :=
  ⟨.map [], (World.ownsMap_made w P k _).mono (Nat.zero_le _), ReadsAs.empty⟩
theorem MapIs.same {M' : α → Option Int} (h : MapIs P k e lit dom w b M) (hM : M = M') : MapIs P k e lit dom w b M' := hM ▸ h

theorem RangeIs.lt (h : RangeIs P k e lit dom w b r M left) : r < w.heap.size := by obtain ⟨D, l, c, ho, -⟩ := h; exact ho.lt
theorem RangeIs.ne (h : RangeIs P k e lit dom w b r M left) : r ≠ b := by obtain ⟨D, l, c, ho, -⟩ := h; exact ho.ne
theorem RangeIs.map (h : RangeIs P k e lit dom w b r M left) : MapIs P k e lit dom w b M := by obtain ⟨D, l, c, ho, hr, -⟩ := h; exact ⟨D, ho.owns, hr⟩
theorem RangeIs.kept {w' : World} {row : Option Nat} (h : RangeIs P k e lit dom w b r M left) (hg : w.grownBy w' row) (h1 : some b ≠ row) (h2 : some r ≠ row) : RangeIs P k e lit dom w' b r M left := by
  obtain ⟨D, l, c, ho, hr⟩ := h; exact ⟨D, l, c, ho.kept hg h1 h2, hr⟩
theorem RangeIs.below {w' : World} (h : RangeIs P k e lit dom w b r M left) (hb : Below w.heap.size w w') : RangeIs P k e lit dom w' b r M left :=
  h.kept (row := none) ⟨hb.os, hb.tape, hb.output, hb.size, fun i hi _ => hb.block i hi⟩ (by simp) (by simp)
theorem RangeIs.left_kept {w' : World} {row : Option Nat} (h : RangeIs P k e lit dom w b r M left) (hg : w.grownBy w' row) (h1 : some b ≠ row) (h2 : some r ≠ row) : w'.rangeLeft b r = w.rangeLeft b r := by
  obtain ⟨D, l, c, ho, hr⟩ := h; rw [ho.left_eq, (ho.kept hg h1 h2).left_eq]
theorem RangeIs.left_below {w' : World} (h : RangeIs P k e lit dom w b r M left) (hb : Below w.heap.size w w') : w'.rangeLeft b r = w.rangeLeft b r :=
  h.left_kept (row := none) ⟨hb.os, hb.tape, hb.output, hb.size, fun i hi _ => hb.block i hi⟩ (by simp) (by simp)
end

section
variable {α : Type} {P : Program} {k e t : TypeId} {val : α → Value} {lit : α → Lit} {dom : List α} {M : α → Option Int} (w : World) {b r : Nat} {left : α → Bool}
  {ops : Array Oper} {rest : List Oper} {o : Oper} {a : Act} {Q : Exit → Act → World → Prop}

theorem opt_cases {x : Option Int} {c : Int} {D : DataW Unit} {kl : Lit} (h1 : x = none → Go.Maps.has D kl = false) (h2 : ∀ c, x = some c → ∀ z, D.atKey kl z = .lit (.int .i64 c)) (hat : D.atKey kl (.lit (.int .i64 0)) = .lit (.int .i64 c)) : x.getD 0 = c := by
  cases x with
  | none =>
    rw [atKey_of_not_has (h1 rfl)] at hat
    simp at hat
    exact hat
  | some c' =>
    rw [h2 c' rfl] at hat
    simp at hat
    exact hat

/-- 'm[k]'. -/
theorem wpList_map_look (hg : o.guard = none) (m x : Operand) (hop : o.op = Op.lookup t m x false) (K : KeyT P k val lit dom) (ht : P.underlying t = some (.map k e)) (he : P.underlying e = some (.int .i64)) (hz : (zeroValue e).run P w = .ok (.int .i64 0) w)
    (hm : a.eval m = .map (some b)) (hown : MapIs P k e lit dom w b M) (key : α) (hkd : key ∈ dom) (hx : a.eval x = val key)
    (hK : wpList P ops Q rest (a.put o.dst (.int .i64 ((M key).getD 0))) w) : wpList P ops Q (o :: rest) a w := by
  obtain ⟨D, ho, hr⟩ := hown
  refine wpList_lookup_own_int w hg m x t hop k e .i64 K.law ht he hz b dom.length D hm ho (val key) (lit key) hx (K.reads key hkd) fun c hat _ => ?_
  rw [opt_cases (fun h => by rw [hr.there key hkd, h]; rfl) (fun c h => hr.at_ key c h) hat] at hK
  exact hK

/-- 'v, ok := m[k]'. -/
theorem wpList_map_look_ok (hg : o.guard = none) (m x : Operand) (hop : o.op = Op.lookup t m x true) (K : KeyT P k val lit dom) (ht : P.underlying t = some (.map k e)) (he : P.underlying e = some (.int .i64)) (hz : (zeroValue e).run P w = .ok (.int .i64 0) w)
    (hm : a.eval m = .map (some b)) (hown : MapIs P k e lit dom w b M) (key : α) (hkd : key ∈ dom) (hx : a.eval x = val key)
    (hK : wpList P ops Q rest (a.put o.dst (.tuple #[.int .i64 ((M key).getD 0), .bool (M key).isSome])) w) : wpList P ops Q (o :: rest) a w := by
  obtain ⟨D, ho, hr⟩ := hown
  refine wpList_lookup_own_ok_int w hg m x t hop k e .i64 K.law ht he hz b dom.length D hm ho (val key) (lit key) hx (K.reads key hkd) fun c hat _ => ?_
  rw [opt_cases (fun h => by rw [hr.there key hkd, h]; rfl) (fun c h => hr.at_ key c h) hat, ← hr.there key hkd] at hK
  exact hK

/-- 'm[k] = v'. -/
theorem wpList_map_put (hg : o.guard = none) (m x v : Operand) (hop : o.op = Op.mapUpdate t m x v) (K : KeyT P k val lit dom) (ht : P.underlying t = some (.map k e)) (he : P.underlying e = some (.int .i64)) (hdom : dom.length < maxLen)
    (hm : a.eval m = .map (some b)) (hown : MapIs P k e lit dom w b M) (key : α) (hkd : key ∈ dom) (hx : a.eval x = val key) (c : Int) (hc : (Lit.int .i64 c).wf = true) (hv : a.eval v = .int .i64 c)
    (hK : ∀ w', MapIs P k e lit dom w' b (upd M key c) → w.grownBy w' (some b) → wpList P ops Q rest (a.put o.dst undef) w') : wpList P ops Q (o :: rest) a w := by
  obtain ⟨D, ho, hr⟩ := hown
  refine wpList_mapUpdate_own w hg m x v t hop k e K.law ht _ b dom.length D hm ho hdom (val key) (.int .i64 c) (lit key) hx hv (K.reads key hkd) (.lit (.int .i64 c)) [] (plainElem_int he hc) fun w' ho' hg' => hK w' ?_ hg'
  have hr' := hr.put K ho.isMap hkd c
  exact ⟨_, (owns_tight ho').mono (hr'.size_le K.law ho'), hr'⟩

/-- 'delete(m, k)'. -/
theorem wpList_map_delete (hg : o.guard = none) (m x : Operand) (hop : o.op = Op.call { callee := Callee.builtin Builtin.delete, args := #[m, x], argTypes := #[t, k] }) (K : KeyT P k val lit dom) (ht : P.underlying t = some (.map k e))
    (hm : a.eval m = .map (some b)) (hown : MapIs P k e lit dom w b M) (key : α) (hkd : key ∈ dom) (hx : a.eval x = val key)
    (hK : ∀ w', MapIs P k e lit dom w' b (del M key) → w.grownBy w' (some b) → wpList P ops Q rest (a.put o.dst (.tuple #[])) w') : wpList P ops Q (o :: rest) a w := by
  obtain ⟨D, ho, hr⟩ := hown
  exact wpList_delete_own w hg m x t k hop e K.law ht _ b dom.length D hm ho (val key) (lit key) hx (K.reads key hkd) fun w' ho' ht' => hK w' ⟨_, ho', hr.drop K hkd⟩ ht'.grown

/-- How many keys are there. -/
noncomputable def countIs (dom : List α) (M : α → Option Int) : Nat := (dom.filter fun a => (M a).isSome).length

theorem MapIs.count {b : Nat} {w : World} (K : KeyT P k val lit dom) (hd : dom.Nodup) {D : DataW Unit} (ho : w.ownsMap P k (plainElem P e) b dom.length D) (hr : ReadsAs lit dom D M) : Maps.size D = countIs dom M := by
  obtain ⟨es, rfl, hp, hk⟩ := ho.entries K.law
  have hkeys : ∀ x, x ∈ es.map (·.1) ↔ x ∈ (dom.filter fun a => (M a).isSome).map lit := by
    intro x
    constructor
    · intro hx
      obtain ⟨p, hp, rfl⟩ := List.mem_map.1 hx
      have hh : Go.Maps.has (.map es) p.1 = true := List.any_eq_true.2 ⟨p, hp, WideAt.sameKey_self (hk p hp)⟩
      obtain ⟨a, ha, hl⟩ := hr.keys p.1 hh
      refine List.mem_map.2 ⟨a, List.mem_filter.2 ⟨ha, ?_⟩, hl.symm⟩
      show (M a).isSome = true
      rw [← hr.there a ha, ← hl]
      exact hh
    · intro hx
      obtain ⟨a, ha, rfl⟩ := List.mem_map.1 hx
      obtain ⟨ha, hs⟩ := List.mem_filter.1 ha
      rw [← hr.there a ha] at hs
      obtain ⟨p, hp, hpk⟩ := List.any_eq_true.1 hs
      exact List.mem_map.2 ⟨p, hp, WideAt.sameKey_eq hpk⟩
  have n1 : (es.map (·.1)).Nodup := by
    rw [List.Nodup, List.pairwise_map]
    exact hp
  have n2 : ((dom.filter fun a => (M a).isSome).map lit).Nodup := by
    rw [List.Nodup, List.pairwise_map]
    refine List.Pairwise.imp_of_mem ?_ (hd.filter _)
    intro a b ha hb hne e
    exact hne (K.inj a (List.mem_filter.1 ha).1 b (List.mem_filter.1 hb).1 e)
  have h1 := nodup_le _ _ n1 fun x hx => (hkeys x).1 hx
  have h2 := nodup_le _ _ n2 fun x hx => (hkeys x).2 hx
  simp only [List.length_map] at h1 h2
  show es.length = _
  unfold countIs
  omega

/-- 'len(m)'. -/
theorem wpList_map_len (hg : o.guard = none) (m : Operand) (hop : o.op = Op.call { callee := Callee.builtin Builtin.len, args := #[m], argTypes := #[t] }) (K : KeyT P k val lit dom) (hd : dom.Nodup) (ht : P.underlying t = some (.map k e))
    (hm : a.eval m = .map (some b)) (hown : MapIs P k e lit dom w b M)
    (hK : wpList P ops Q rest (a.put o.dst (.int .i64 (countIs dom M : Nat))) w) : wpList P ops Q (o :: rest) a w := by
  obtain ⟨D, ho, hr⟩ := hown
  refine wpList_len_own w hg m t hop k e ht _ b dom.length D hm ho ?_
  rw [MapIs.count K hd ho hr]
  exact hK

/-- 'range m'. -/
theorem wpList_map_range (hg : o.guard = none) (m : Operand) (hop : o.op = Op.range t m) (K : KeyT P k val lit dom) (ht : P.underlying t = some (.map k e)) (hm : a.eval m = .map (some b)) (hown : MapIs P k e lit dom w b M)
    (hK : ∀ w', RangeIs P k e lit dom w' b w.heap.size M (fun x => (M x).isSome) → w.grownBy w' none → w'.heap.size = w.heap.size + 1 → wpList P ops Q rest (a.put o.dst (.pointer (some ⟨w.heap.size, 0, none⟩))) w') : wpList P ops Q (o :: rest) a w := by
  obtain ⟨D, ho, hr⟩ := hown
  refine wpList_range_own w hg m t hop k e K.law ht _ b dom.length D hm ho fun w' hrg hg' hs => hK w' ⟨D, _, _, hrg, hr, fun a ha => hr.there a ha, fun kl h => h, fun a ha => hr.out a (fun h => by simp [h] at ha)⟩ hg' hs

/-- The step of such a loop. -/
theorem wpList_map_next (hg : o.guard = none) (it : Operand) (hop : o.op = Op.next it false) (K : KeyT P k val lit dom) (he : P.underlying e = some (.int .i64)) (hit : a.eval it = .pointer (some ⟨r, 0, none⟩)) (h : RangeIs P k e lit dom w b r M left)
    (hDone : (∀ x, left x = false) → wpList P ops Q rest (a.put o.dst (.tuple #[.bool false])) w)
    (hMore : ∀ (x : α) (c : Int) (w' : World), x ∈ dom → left x = true → M x = some c → (Lit.int .i64 c).wf = true → RangeIs P k e lit dom w' b r M (fun z => open Classical in if z = x then false else left z) → w'.rangeLeft b r < w.rangeLeft b r → w.grownBy w' (some r) → w'.heap.size = w.heap.size →
      (Instr.entry (.pointer (some ⟨r, 0, none⟩))).run P w' = .ok (.tuple #[val x, .int .i64 c]) w' → wpList P ops Q rest (a.put o.dst (.tuple #[.bool true, val x, .int .i64 c])) w') :
    wpList P ops Q (o :: rest) a w := by
  obtain ⟨D, left0, cnt, hrg, hr, hl, hh, hld⟩ := h
  refine wpList_plain hg fun K' hK' => ?_
  unfold Oper.wp
  rcases hrg.next K.law o.type with ⟨h0, hl0, hrun⟩ | ⟨key, v, kl, y, w', cnt', hkey, hlk, hv, hat, hrun, hrg', hlt, hgr, hsz, hen⟩
  · simp [execOp, hop, hit, hrun, Result.andThen]
    refine hK' _ _ (hDone fun x => ?_)
    cases hx : left x
    · rfl
    · rw [← hl x (hld x hx), hl0] at hx
      cases hx
  · obtain ⟨x, hxd, rfl⟩ := hr.keys kl (hh kl hlk)
    obtain rfl : key = val x := K.law.inj hkey (K.reads x hxd)
    obtain ⟨c, rfl, rfl, hwc⟩ := plainElem_int_inv he hv
    have hMx : M x = some c := by
      cases hM : M x with
      | none =>
        have := hr.there x hxd
        rw [hM, hh _ hlk] at this
        cases this
      | some c' =>
        have h1 := hr.at_ x c' hM (.lit (.int .i64 0))
        rw [hat] at h1
        simp at h1
        rw [h1]
    simp [execOp, hop, hit, hrun, Result.andThen]
    refine hK' _ _ (hMore x c w' hxd ((hl x hxd).symm.trans hlk) hMx hwc ⟨D, _, cnt', hrg', hr, fun z hz => ?_, fun kl' h' => hh kl' ?_, fun z hz => ?_⟩ ?_ hgr hsz hen)
    · by_cases ez : z = x
      · subst ez
        simp [WideAt.sameKey_self (K.law.key (K.reads z hz))]
      · simp [ez, hl z hz, sameKey_ne (fun e2 => ez (K.inj z hz x hxd e2))]
    · simp at h'
      exact h'.1
    · by_cases ez : z = x
      · subst ez; exact hxd
      · simp [ez] at hz
        exact hld z hz
    · rw [hrg'.left_eq, hrg.left_eq]
      exact hlt
end
end Go.Proofs.Ytlpeimlbpiofkaa

namespace Go.Proofs.Ytlpeimlbpiofkaa
open Go.RowKit Go.Maps Go.WideShapes

section
variable {α : Type} {P : Program} {k e t : TypeId} {val : α → Value} {lit : α → Lit} {dom : List α} {M : α → Option Int} (w : World) {b : Nat}

theorem MapIs.look {w : World} (h : MapIs P k e lit dom w b M) (K : KeyT P k val lit dom) (ht : P.underlying t = some (.map k e)) (he : P.underlying e = some (.int .i64)) (hz : (zeroValue e).run P w = .ok (.int .i64 0) w) (key : α) (hkd : key ∈ dom) :
    (Instr.lookup t (.map (some b)) (val key) false).run P w = .ok (.int .i64 ((M key).getD 0)) w := by
  obtain ⟨D, ho, hr⟩ := h
  obtain ⟨c, hrun, hat, -⟩ := ho.lookup_int K.law ht he hz (K.reads key hkd)
  rw [hrun, opt_cases (fun h => by rw [hr.there key hkd, h]; rfl) (fun c h => hr.at_ key c h) hat]
theorem MapIs.look_ok {w : World} (h : MapIs P k e lit dom w b M) (K : KeyT P k val lit dom) (ht : P.underlying t = some (.map k e)) (he : P.underlying e = some (.int .i64)) (hz : (zeroValue e).run P w = .ok (.int .i64 0) w) (key : α) (hkd : key ∈ dom) :
    (Instr.lookup t (.map (some b)) (val key) true).run P w = .ok (.tuple #[.int .i64 ((M key).getD 0), .bool (M key).isSome]) w := by
  obtain ⟨D, ho, hr⟩ := h
  obtain ⟨v, ps, hrun, hv⟩ := ho.look_ok K.law ht hz (plainElem_int he (by decide)) (K.reads key hkd)
  obtain ⟨c, rfl, hc, -⟩ := plainElem_int_inv he hv
  simp only [Prod.mk.injEq] at hc
  rw [hrun, opt_cases (fun h => by rw [hr.there key hkd, h]; rfl) (fun c h => hr.at_ key c h) hc.1, ← hr.there key hkd]
theorem MapIs.update {w : World} (h : MapIs P k e lit dom w b M) (K : KeyT P k val lit dom) (ht : P.underlying t = some (.map k e)) (he : P.underlying e = some (.int .i64)) (hdom : dom.length < maxLen) (key : α) (hkd : key ∈ dom) (c : Int) (hc : (Lit.int .i64 c).wf = true) :
    ∃ w', (Instr.mapUpdate t (.map (some b)) (val key) (.int .i64 c)).run P w = .ok () w' ∧ MapIs P k e lit dom w' b (upd M key c) ∧ w.grownBy w' (some b) := by
  obtain ⟨D, ho, hr⟩ := h
  obtain ⟨w', hrun, r1, r2⟩ := ho.update K.law ht hdom (K.reads key hkd) (plainElem_int he hc)
  have hr' := hr.put K ho.isMap hkd c
  exact ⟨w', hrun, ⟨_, (owns_tight r1).mono (hr'.size_le K.law r1), hr'⟩, r2⟩
/-- 'm[k] = v', as one operation. -/
theorem wp_map_put {o : Oper} {a : Act} {K' : Act → World → Prop} {Q : Exit → Act → World → Prop} (m x v : Operand) (hop : o.op = Op.mapUpdate t m x v) (K : KeyT P k val lit dom) (ht : P.underlying t = some (.map k e)) (he : P.underlying e = some (.int .i64)) (hdom : dom.length < maxLen)
    (hm : a.eval m = .map (some b)) (hown : MapIs P k e lit dom w b M) (key : α) (hkd : key ∈ dom) (hx : a.eval x = val key) (c : Int) (hc : (Lit.int .i64 c).wf = true) (hv : a.eval v = .int .i64 c)
    (hK : ∀ w', MapIs P k e lit dom w' b (upd M key c) → w.grownBy w' (some b) → K' (a.put o.dst undef) w') : o.wp P a w K' Q := by
  obtain ⟨w', hrun, r1, r2⟩ := hown.update K ht he hdom key hkd c hc
  unfold Oper.wp
  simp [execOp, hop, hm, hx, hv, hrun, Result.andThen]
  exact hK w' r1 r2
/-- 'v, ok := m[k]' where it is not there, and where it is. -/
theorem wpList_map_none {ops : Array Oper} {rest : List Oper} {o : Oper} {a : Act} {Q : Exit → Act → World → Prop} (hg : o.guard = none) (m x : Operand) (hop : o.op = Op.lookup t m x true) (K : KeyT P k val lit dom) (ht : P.underlying t = some (.map k e)) (he : P.underlying e = some (.int .i64)) (hz : (zeroValue e).run P w = .ok (.int .i64 0) w)
    (hm : a.eval m = .map (some b)) (hown : MapIs P k e lit dom w b M) (key : α) (hkd : key ∈ dom) (hx : a.eval x = val key) (hM : M key = none)
    (hK : wpList P ops Q rest (a.put o.dst (.tuple #[.int .i64 0, .bool false])) w) : wpList P ops Q (o :: rest) a w :=
  wpList_map_look_ok w hg m x hop K ht he hz hm hown key hkd hx (by rw [hM]; exact hK)
theorem wpList_map_some {ops : Array Oper} {rest : List Oper} {o : Oper} {a : Act} {Q : Exit → Act → World → Prop} (hg : o.guard = none) (m x : Operand) (hop : o.op = Op.lookup t m x true) (K : KeyT P k val lit dom) (ht : P.underlying t = some (.map k e)) (he : P.underlying e = some (.int .i64)) (hz : (zeroValue e).run P w = .ok (.int .i64 0) w)
    (hm : a.eval m = .map (some b)) (hown : MapIs P k e lit dom w b M) (key : α) (hkd : key ∈ dom) (hx : a.eval x = val key) {c : Int} (hM : M key = some c)
    (hK : wpList P ops Q rest (a.put o.dst (.tuple #[.int .i64 c, .bool true])) w) : wpList P ops Q (o :: rest) a w :=
  wpList_map_look_ok w hg m x hop K ht he hz hm hown key hkd hx (by rw [hM]; exact hK)
/-- An entry of a map's literal. -/
theorem wpList_map_entry {ops : Array Oper} {rest : List Oper} {o : Oper} {a : Act} {Q : Exit → Act → World → Prop} (hg : o.guard = none) (m x v : Operand) (hop : o.op = Op.insert t m x v) (K : KeyT P k val lit dom) (ht : P.underlying t = some (.map k e)) (he : P.underlying e = some (.int .i64)) (hdom : dom.length < maxLen)
    (hm : a.eval m = .map (some b)) (hown : MapIs P k e lit dom w b M) (key : α) (hkd : key ∈ dom) (hx : a.eval x = val key) (c : Int) (hc : (Lit.int .i64 c).wf = true) (hv : a.eval v = .int .i64 c)
    (hK : ∀ w', MapIs P k e lit dom w' b (upd M key c) → w.grownBy w' (some b) → wpList P ops Q rest (a.put o.dst undef) w') : wpList P ops Q (o :: rest) a w := by
  refine wpList_plain hg fun K2 hK2 => ?_
  obtain ⟨w', hrun, r1, r2⟩ := hown.update K ht he hdom key hkd c hc
  unfold Oper.wp
  simp [execOp, hop, hm, hx, hv, hrun, Result.andThen]
  exact hK2 _ _ (hK w' r1 r2)
end

/-- The number that a list of entries holds at a key: the newest one. -/
def lk (m : List (Nat × Int)) (y : Nat) : Option Int := m.lookup y
theorem lk_put (m : List (Nat × Int)) (y : Nat) (v : Int) : upd (lk m) y v = lk ((y, v) :: m) := by
  funext z
  by_cases h : z = y
  · subst h; rw [upd_same]; simp [lk]
  · rw [upd_other _ _ h]
    have hb : (z == y) = false := by simp [h]
    simp [lk, List.lookup, hb]
theorem lk_mem {m : List (Nat × Int)} {y : Nat} {v : Int} (h : lk m y = some v) : (y, v) ∈ m := by
  induction m with
  | nil => simp [lk] at h
  | cons p m ih =>
    obtain ⟨a, b⟩ := p
    by_cases e : y = a
    · subst e
      have : b = v := by simpa [lk] using h
      simp [this]
    · have hb : (y == a) = false := by simp [e]
      have h' : lk m y = some v := by simpa [lk, List.lookup, hb] using h
      exact List.mem_cons_of_mem _ (ih h')
end Go.Proofs.Ytlpeimlbpiofkaa

namespace Go.Proofs.Ytlpeimlbpiofkaa
open Go.RowKit

/-- The places lie in block b0, an old one, or in a new one, but none of the call's own first three. -/
def Beside (B b0 : Nat) (w : World) (A : Option Addr) (xs : List Value) : Prop := b0 < B ∧ ∃ b o, A = some ⟨b, o, none⟩ ∧ b < w.heap.size ∧ (b = b0 ∨ B + 1 + 1 + 1 ≤ b) ∧ ∀ j u, xs[j]? = some u → w.cell? ⟨b, o + j, none⟩ = some u
theorem Beside.holds {B b0 : Nat} {w : World} {A : Option Addr} {xs : List Value} (h : Beside B b0 w A xs) : Holds w A xs := by
  obtain ⟨-, b, o, hA, hb, -, hc⟩ := h
  exact .inr ⟨b, o, hA, hb, hc⟩
theorem Beside.below {B b0 : Nat} {w w' : World} {A : Option Addr} {xs : List Value} (h : Beside B b0 w A xs) (hb : Below w.heap.size w w') : Beside B b0 w' A xs := by
  obtain ⟨h0, b, o, hA, hl, hd, hc⟩ := h
  exact ⟨h0, b, o, hA, Nat.lt_of_lt_of_le hl hb.size, hd, fun j u hu => (hb.cell (p := ⟨b, o + j, none⟩) hl).trans (hc j u hu)⟩
theorem Beside.set {B b0 g i : Nat} {w : World} {A : Option Addr} {xs : List Value} (h : Beside B b0 w A xs) (hg : B ≤ g ∧ g ≤ B + 1 + 1) (v : Value) : Beside B b0 (w.setCell ⟨g, i, none⟩ v) A xs := by
  obtain ⟨h0, b, o, hA, hl, hd, hc⟩ := h
  refine ⟨h0, b, o, hA, by simpa [World.setCell] using hl, hd, fun j u hu => ?_⟩
  have h1 := hc j u hu
  have h2 := Below.heap_setCell w ⟨g, i, none⟩ v b (by show b ≠ g; omega)
  simp only [World.cell?] at h1 ⊢
  rw [h2]
  exact h1
/-- A list that lies in block b0, or in a block from B on. -/
def OldOrNew (B b0 : Nat) (w : World) (A : Option Addr) (xs : List Value) : Prop := ∃ b o, A = some ⟨b, o, none⟩ ∧ b < w.heap.size ∧ (b = b0 ∨ B ≤ b) ∧ ∀ j u, xs[j]? = some u → w.cell? ⟨b, o + j, none⟩ = some u
theorem Beside.oldOrNew {B b0 : Nat} {w : World} {A : Option Addr} {xs : List Value} (h : Beside B b0 w A xs) : OldOrNew B b0 w A xs := by
  obtain ⟨-, b, o, hA, hl, hd, hc⟩ := h
  exact ⟨b, o, hA, hl, by omega, hc⟩
theorem OldOrNew.holds {B b0 : Nat} {w : World} {A : Option Addr} {xs : List Value} (h : OldOrNew B b0 w A xs) : Holds w A xs := by
  obtain ⟨b, o, hA, hb, -, hc⟩ := h
  exact .inr ⟨b, o, hA, hb, hc⟩
theorem OldOrNew.alloc {B b0 : Nat} {w : World} {A : Option Addr} {xs : List Value} (h : OldOrNew B b0 w A xs) (x : Obj) : OldOrNew B b0 (w.alloc x) A xs := by
  obtain ⟨b, o, hA, hb, hd, hc⟩ := h
  exact ⟨b, o, hA, by simp; omega, hd, fun j u hu => (World.cell?_alloc_lt w x ⟨b, o + j, none⟩ hb).trans (hc j u hu)⟩
theorem OldOrNew.set {B b0 g i : Nat} {w : World} {A : Option Addr} {xs : List Value} (h : OldOrNew B b0 w A xs) (hg : g < B) (hg0 : g ≠ b0) (v : Value) : OldOrNew B b0 (w.setCell ⟨g, i, none⟩ v) A xs := by
  obtain ⟨b, o, hA, hl, hd, hc⟩ := h
  refine ⟨b, o, hA, by simpa [World.setCell] using hl, hd, fun j u hu => ?_⟩
  have h1 := hc j u hu
  have h2 := Below.heap_setCell w ⟨g, i, none⟩ v b (by show b ≠ g; omega)
  simp only [World.cell?] at h1 ⊢
  rw [h2]
  exact h1
/-- What paPlay hands back. -/
def PlayAt (b0 : Nat) (n : Nat) (s : Int) (bs : List Bool) (t : Bool) (ls : List (List Int)) (m : Nat) (w : World) (e : Ending) (w' : World) : Prop :=
  ∃ (A : Option Addr) (c : Nat), e = .returned (.tuple #[.agg #[.slice A m c, .bool (ended n s bs t ls).2], .int .i64 (made n s bs t ls)]) ∧ OldOrNew w.heap.size b0 w' A (bits (ended n s bs t ls).1) ∧ Below w.heap.size w w'

end Go.Proofs.Ytlpeimlbpiofkaa

namespace Go.Proofs.Ytlpeimlbpiofkaa
open Go.RowKit

/-- Do the trips bring everybody and the torch over? -/
noncomputable def allOver (n : Nat) (s : Int) (ls : List (List Int)) : Bool := sameBits (ended n s (falses n) false ls).1 (trues n) && (ended n s (falses n) false ls).2
noncomputable def isPlan (n : Nat) (s : Int) (ls : List (List Int)) : Bool := decide (ls.length ≤ 40) && (decide (made n s (falses n) false ls = ls.length) && allOver n s ls)

theorem Whole.spots {w : World} {g : Nat} {t : TypeId} {xs : List Value} (h : Whole w g t xs.toArray) : ∀ j u, xs[j]? = some u → w.cell? ⟨g, 0 + j, none⟩ = some u := fun j u hu => by
  rw [Nat.zero_add, h.cell j]
  simpa using hu
/-- Behind the trips: the state lies in block g. -/
def EndMid (n : Nat) (s : Int) (ls : List (List Int)) (W : World) (v u : Value) (wx : World) : Prop :=
  ∃ (g : Nat) (A : Option Addr) (q : Nat), v = .pointer (some ⟨g, 0, none⟩) ∧ u = .int .i64 (made n s (falses n) false ls) ∧ Whole wx g 44 #[.slice A n q, .bool (ended n s (falses n) false ls).2] ∧ Holds wx A (bits (ended n s (falses n) false ls).1) ∧ Below W.heap.size W wx
theorem EndMid.last {n : Nat} {s : Int} {ls : List (List Int)} {W w : World} {A : Option Addr} {q : Nat} (hc : Below W.heap.size W w) (hA : Holds w A (bits (ended n s (falses n) false ls).1)) :
    EndMid n s ls W (.pointer (some ⟨w.heap.size, 0, none⟩)) (.int .i64 (made n s (falses n) false ls)) (w.alloc (.cells #[.slice A n q, .bool (ended n s (falses n) false ls).2] 44)) :=
  ⟨_, A, q, rfl, rfl, Whole.fresh _ _ _, hA.alloc _, hc.alloc hc.size _⟩
theorem EndMid.first {n : Nat} {s : Int} {ls : List (List Int)} {W w : World} {A : Option Addr} {q g b0 B : Nat} {a b : Value} (hc : Below W.heap.size W w) (hA : OldOrNew B b0 w A (bits (ended n s (falses n) false ls).1)) (hg : g < B) (hg0 : g ≠ b0) (hgW : W.heap.size ≤ g) (hw : Whole w g 44 #[a, b]) :
    EndMid n s ls W (.pointer (some ⟨g, 0, none⟩)) (.int .i64 (made n s (falses n) false ls)) ((w.setCell ⟨g, 0, none⟩ (.slice A n q)).setCell ⟨g, 1, none⟩ (.bool (ended n s (falses n) false ls).2)) :=
  ⟨g, A, q, rfl, rfl, (hw.set_ 0 _).set_ 1 _, ((hA.set hg hg0 _).set hg hg0 _).holds, below_set (below_set hc hgW) hgW⟩

end Go.Proofs.Ytlpeimlbpiofkaa

namespace Go.Proofs.Ytlpeimlbpiofkaa
open Go.RowKit

theorem Fresh.set_ne {w : World} {lo hi b o : Nat} {ty t : TypeId} {A : Option Addr} {xs : List Value} {u : Value} {cs : Array Value} (hf : Fresh w lo hi ty A xs) (hb : Whole w b t cs) (hn : t ≠ ty) : Fresh (w.setCell ⟨b, o, none⟩ u) lo hi ty A xs := by
  rcases hf with rfl | ⟨g, cs', hA, h1, h2, hw, h3, h4⟩
  · exact .inl rfl
  · exact .inr ⟨g, cs', hA, h1, h2, hw.off (whole_ne hw hb (fun e => hn e.symm)), h3, h4⟩
theorem Fresh.spots {w : World} {lo hi : Nat} {ty : TypeId} {A : Option Addr} {xs : List Value} (hf : Fresh w lo hi ty A xs) (h0 : 0 < xs.length) : ∃ g, A = some ⟨g, 0, none⟩ ∧ ∀ j u, xs[j]? = some u → w.cell? ⟨g, 0 + j, none⟩ = some u := by
  have hh := hf.holds
  rcases hf with rfl | ⟨g, cs', rfl, h1, h2, hw, h3, h4⟩
  · simp at h0
  · refine ⟨g, rfl, fun j u hu => ?_⟩
    rcases hh with h | ⟨b, o, hA, hb, hc⟩
    · rw [h] at h0; simp at h0
    · obtain ⟨rfl, rfl⟩ : g = b ∧ 0 = o := by simpa using hA
      exact hc j u hu
def wpOk (xs : List Int) (m : Nat) (s : Int) (ls : List (List Int)) : Bool := isCrew xs m s && decide (ls.length ≤ 40)
def isWP (xs : List Int) (bs : List Bool) (m : Nat) (s : Int) (ls : List (List Int)) : Bool := wpOk xs m s ls && playW xs.length (crewLists xs bs s) (falses xs.length) false ls
theorem wp_no {xs : List Int} {bs : List Bool} {m : Nat} {s : Int} {ls : List (List Int)} (h : isCrew xs m s = false ∨ 40 < ls.length) : wpOk xs m s ls = false ∧ isWP xs bs m s ls = false := by
  have h0 : wpOk xs m s ls = false := by
    rcases h with h | h
    · simp [wpOk, h]
    · simp [wpOk]; omega
  exact ⟨h0, by simp [isWP, h0]⟩
theorem wp_yes {xs : List Int} {bs : List Bool} {m : Nat} {s : Int} {ls : List (List Int)} (h : isCrew xs m s = true) (h40 : ls.length ≤ 40) : wpOk xs m s ls = true ∧ isWP xs bs m s ls = playW xs.length (crewLists xs bs s) (falses xs.length) false ls := by
  have h0 : wpOk xs m s ls = true := by simp [wpOk, h, h40]
  exact ⟨h0, by simp [isWP, h0]⟩
theorem crew_small {xs : List Int} (bs : List Bool) (s : Int) (h : xs.length ≤ 7) : (crewLists xs bs s).length ≤ 255 := Nat.le_trans (legs_len _ _ _ _) (upLists_small (by omega))
theorem crew_up {xs : List Int} {bs : List Bool} {s : Int} {l : List Int} (h : l ∈ crewLists xs bs s) : l ∈ upLists xs.length xs.length := (List.mem_filter.1 h).1
theorem ride_in {xs : List Int} {bs : List Bool} {s : Int} {sb : List Bool} {t : Bool} {l : List Int} : canRide xs bs s sb t l = true ↔ l ∈ ridesAt sb t (crewLists xs bs s) := ride_mem

end Go.Proofs.Ytlpeimlbpiofkaa

namespace Go.Proofs.Ytlpeimlbpiofkaa
open Go.RowKit

/-- What a ride makes of a state. -/
noncomputable def rideOk (xs : List Int) (bs : List Bool) (m : Nat) (s : Int) (sb : List Bool) (t : Bool) (l : List Int) : Bool := crewState xs m s sb t && canRide xs bs s sb t l
noncomputable def rideBits (xs : List Int) (bs : List Bool) (m : Nat) (s : Int) (sb : List Bool) (t : Bool) (l : List Int) : List Bool := if rideOk xs bs m s sb t l then flipped sb l else []
noncomputable def rideTorch (xs : List Int) (bs : List Bool) (m : Nat) (s : Int) (sb : List Bool) (t : Bool) (l : List Int) : Bool := rideOk xs bs m s sb t l && !t
theorem rideW_no {xs : List Int} {bs : List Bool} {m : Nat} {s : Int} {sb : List Bool} {t : Bool} {l : List Int} (h : rideOk xs bs m s sb t l = false) : rideOk xs bs m s sb t l = false ∧ rideBits xs bs m s sb t l = [] ∧ rideTorch xs bs m s sb t l = false := ⟨h, by simp [rideBits, h], by simp [rideTorch, h]⟩
theorem rideW_yes {xs : List Int} {bs : List Bool} {m : Nat} {s : Int} {sb : List Bool} {t : Bool} {l : List Int} (h : rideOk xs bs m s sb t l = true) : rideOk xs bs m s sb t l = true ∧ rideBits xs bs m s sb t l = flipped sb l ∧ rideTorch xs bs m s sb t l = !t := ⟨h, by simp [rideBits, h], by simp [rideTorch, h]⟩
theorem rideBits_le {xs : List Int} {bs : List Bool} {m : Nat} {s : Int} {sb : List Bool} {t : Bool} {l : List Int} : (rideBits xs bs m s sb t l).length ≤ sb.length := by
  unfold rideBits; split
  · rw [flipped_len]; exact Nat.le_refl _
  · simp
theorem crewState_ok {xs : List Int} {m : Nat} {s : Int} {sb : List Bool} {t : Bool} (h : crewState xs m s sb t = true) : CrewOk xs m s ∧ sb.length = xs.length := by
  simp only [crewState, isState, Bool.and_eq_true, decide_eq_true_eq] at h
  exact ⟨isCrew_ok h.1, h.2.1⟩

/-- What stands behind the search for the ride. -/
def RideCut (w : World) (A B : Option Addr) (n0 m d : Nat) (s : Int) (P : Array Value) (ok : Bool) (v u : Value) (wx : World) : Prop :=
  ∃ g : Nat, v = .bool ok ∧ u = .pointer (some ⟨g, 0, none⟩) ∧ Whole wx g 75 P ∧ Whole wx w.heap.size 57 #[.slice A n0 n0, .slice B m d, .int .i64 s] ∧ Whole wx (w.heap.size + 1 + 1) 44 #[.slice none 0 0, .bool false] ∧ w.heap.size + 1 + 1 < g ∧ Below w.heap.size w wx

end Go.Proofs.Ytlpeimlbpiofkaa

namespace Go.Proofs.Ytlpeimlbpiofkaa
open Go.RowKit

theorem size_st : (Try.prog.info? 44).map (·.size) = some 2 := by kernel_rfl
theorem Fresh.only {w w' : World} {lo hi b : Nat} {ty : TypeId} {A : Option Addr} {xs : List Value} (hf : Fresh w lo hi ty A xs) (o : Only b w w') (hb : b < lo) : Fresh w' lo hi ty A xs := by
  rcases hf with rfl | ⟨g, cs, hA, h1, h2, hw, h3, h4⟩
  · exact .inl rfl
  · exact .inr ⟨g, cs, hA, h1, h2, o.whole hw (by omega), h3, h4⟩
/-- Is the list a row in a calm state? -/
noncomputable def boatOk (a b : Int) (bs : List Bool) (t : Bool) (l : List Int) : Bool := calmIn a b bs t && tripM a.toNat b (codeOf bs t) l
noncomputable def boatBits (a b : Int) (bs : List Bool) (t : Bool) (l : List Int) : List Bool := if boatOk a b bs t l then flipped bs l else []
noncomputable def boatTorch (a b : Int) (bs : List Bool) (t : Bool) (l : List Int) : Bool := boatOk a b bs t l && !t
theorem boat_no {a b : Int} {bs : List Bool} {t : Bool} {l : List Int} (h : boatOk a b bs t l = false) : boatBits a b bs t l = [] ∧ boatTorch a b bs t l = false ∧ boatOk a b bs t l = false := by simp [boatBits, boatTorch, h]
theorem boat_yes {a b : Int} {bs : List Bool} {t : Bool} {l : List Int} (h : boatOk a b bs t l = true) : boatBits a b bs t l = flipped bs l ∧ boatTorch a b bs t l = !t ∧ boatOk a b bs t l = true := by simp [boatBits, boatTorch, h]
theorem bits_back {n : Nat} {cs : List Bool} {u : Bool} (h : cs.length = n) : bitsOf (codeOf cs u / 2) n = cs := by
  refine List.ext_getElem (by rw [bitsOf_len, h]) fun i h1 h2 => ?_
  have hb := bit_maskUp (fun i => cs.getD i false) cs.length i
  rw [← code_half cs u] at hb
  simp only [bitsOf, List.getElem_map, List.getElem_range]
  rw [hb]
  simp [h2]
theorem torch_back (cs : List Bool) (u : Bool) : bitAt (codeOf cs u) 0 = u := by rw [bit_code]; rfl

end Go.Proofs.Ytlpeimlbpiofkaa

namespace Go.Proofs.Ytlpeimlbpiofkaa
open Go.RowKit

theorem rows_of_same {k q x : Nat} (h : (!quiet k (bitAt (x / 2)) || rowsSame k q x) = true) (hq : quiet k (bitAt (x / 2)) = true) : (rowsM k q x (2 ^ (2 * k) - 1) 1 []).map listOf = rowsIn k q (bitsOf (x / 2) (2 * k)) (bitAt x 0) := by
  rw [hq, Bool.not_true, Bool.false_or] at h
  exact eq_of_beq h
theorem rows_list {k q : Nat} {bs : List Bool} {t : Bool} (hk1 : 1 ≤ k) (hk : k ≤ 4) (hq1 : 1 ≤ q) (hq4 : q ≤ 4) (hl : bs.length = 2 * k) (hq : quiet k (bitAt (codeOf bs t / 2)) = true) : (rowsM k q (codeOf bs t) (2 ^ (2 * k) - 1) 1 []).map listOf = rowsIn k q bs t := by
  have hx := code_lt bs t
  rw [hl] at hx
  have key : (rowsM k q (codeOf bs t) (2 ^ (2 * k) - 1) 1 []).map listOf = rowsIn k q (bitsOf (codeOf bs t / 2) (2 * k)) (bitAt (codeOf bs t) 0) := by
    obtain ⟨p, rfl⟩ : ∃ p, q = p + 1 := ⟨q - 1, by omega⟩
    refine rows_of_same ?_ hq
    generalize codeOf bs t = x at hx
    obtain rfl | rfl | rfl | rfl : k = 1 ∨ k = 2 ∨ k = 3 ∨ k = 4 := by omega
    · exact List.all_eq_true.1 (List.all_eq_true.1 rows_same1 p (List.mem_range.2 (by omega))) x (List.mem_range.2 (by omega))
    · exact List.all_eq_true.1 (List.all_eq_true.1 rows_same2 p (List.mem_range.2 (by omega))) x (List.mem_range.2 (by omega))
    · exact List.all_eq_true.1 (List.all_eq_true.1 rows_same3 p (List.mem_range.2 (by omega))) x (List.mem_range.2 (by omega))
    · exact List.all_eq_true.1 (List.all_eq_true.1 rows_same4 p (List.mem_range.2 (by omega))) x (List.mem_range.2 (by omega))
  rw [key, bits_back hl, torch_back]
theorem rowsM_mem (k : Nat) (q : Int) (x : Nat) : ∀ (n g : Nat) (out : List Nat), (∀ y ∈ out, y < 256) → g + n ≤ 256 → ∀ y ∈ rowsM k q x n g out, y < 256
  | 0, _, _, h, _ => h
  | n + 1, g, out, h, hg => rowsM_mem k q x n (g + 1) _ (by split; { exact insG_mem h (by omega) }; { exact h }) (by omega)
theorem rowsM_len (k : Nat) (q : Int) (x : Nat) : ∀ (n g : Nat) (out : List Nat), (rowsM k q x n g out).length ≤ out.length + n
  | 0, _, out => Nat.le_refl _
  | n + 1, g, out => by
    rw [rowsM_next]
    refine Nat.le_trans (rowsM_len k q x n (g + 1) _) ?_
    split
    · rw [insG_len]; omega
    · omega
/-- The rows of a state: none where it isn't calm. -/
noncomputable def rowsLs (a b : Int) (bs : List Bool) (t : Bool) : List (List Int) := if calmIn a b bs t then rowsIn a.toNat b.toNat bs t else []
theorem rowsLs_le {a b : Int} {bs : List Bool} {t : Bool} : (rowsLs a b bs t).length ≤ 1048576 ∧ ((rowsLs a b bs t).map List.length).sum ≤ 1048576 := by
  cases h : calmIn a b bs t
  · simp [rowsLs, h]
  · have hp : isPlace a b bs t = true := by
      cases hp : isPlace a b bs t
      · rw [calmIn_no hp] at h; cases h
      · rfl
    obtain ⟨k, rfl, hk1, hk, hb1, hb4, -, -, hl⟩ := place_co hp
    obtain ⟨q, rfl⟩ : ∃ q : Nat, b = q := ⟨b.toNat, by omega⟩
    have hq : quiet k (bitAt (codeOf bs t / 2)) = true := by rw [quiet_code (c := k) (t := t) hl, ← calmIn_yes hp]; exact h
    have hr := rows_list (q := q) hk1 hk (by omega) (by omega) hl hq
    rw [show rowsLs k q bs t = rowsIn k q bs t by simp [rowsLs, h], ← hr]
    have h1 := rowsM_len k q (codeOf bs t) (2 ^ (2 * k) - 1) 1 []
    have hp4 := pow_c hk
    generalize rowsM k q (codeOf bs t) (2 ^ (2 * k) - 1) 1 [] = R at h1
    have h2 := sum_lens (k := 8) (ls := R.map listOf) fun l hl => by obtain ⟨g, -, rfl⟩ := List.mem_map.1 hl; exact listOf_le g
    rw [List.length_map] at h2 ⊢
    simp only [List.length_nil] at h1
    omega

end Go.Proofs.Ytlpeimlbpiofkaa

namespace Go.Proofs.Ytlpeimlbpiofkaa
open Go.RowKit

/-- Heads of the call's own over rows that lie spread below them. -/
theorem heads_of_spread {w4 wr : World} {lo c : Nat} {A D : Option Addr} {rs : List RowV} (hs : Spread w4 lo A rs) (hb : Below w4.heap.size w4 wr) (ho : wr.ownsRow w4.heap.size 22 1 (.slice D rs.length c) rs.length (rowVals rs)) (hl : lo ≤ w4.heap.size) : Heads wr lo D c rs := by
  obtain ⟨ps, h2, h3, -⟩ := hs
  refine ⟨own_lower ho hl, ps, h2.below hb, fun p hp => ⟨(h3 p hp).1, Nat.le_trans (h3 p hp).2 hb.size⟩, fun a ha p hp => .inr ?_⟩
  subst ha
  exact Nat.le_trans (h3 p hp).2 (ho.lt a.block rfl).1

end Go.Proofs.Ytlpeimlbpiofkaa

namespace Go.Proofs.Ytlpeimlbpiofkaa
open Go.RowKit

/-- The rides that are told. -/
def ridesLs (xs : List Int) (bs : List Bool) (m : Nat) (s : Int) (sb : List Bool) (t : Bool) : List (List Int) := if crewState xs m s sb t then ridesAt sb t (crewLists xs bs s) else []

end Go.Proofs.Ytlpeimlbpiofkaa

namespace Go.Proofs.Ytlpeimlbpiofkaa
open Go.RowKit

/-- Some of the rows that lie spread lie spread. -/
theorem free_pair {w : World} {ps : List (Nat × Nat)} {rs : List RowV} (h : FreeRows w ps rs) : (∀ y ∈ rs.zip ps, Fresh w y.2.1 y.2.2 3 y.1.A (nums y.1.xs) ∧ y.1.xs.length = y.1.n ∧ y.1.n ≤ 1048576) ∧ (rs.zip ps).Pairwise (fun a b => a.2.2 ≤ b.2.1 ∨ b.2.2 ≤ a.2.1) := by
  obtain ⟨h1, h2, h3⟩ := h
  refine ⟨fun y hy => ?_, ?_⟩
  · obtain ⟨k, hk, rfl⟩ := List.getElem_of_mem hy
    have hk' : k < rs.length ∧ k < ps.length := by have h9 := hk; rw [List.length_zip] at h9; omega
    have := h2 k rs[k] ps[k] (by simp [hk'.1]) (by simp [hk'.2])
    simpa using this
  · rw [List.pairwise_iff_getElem]
    intro i j hi hj hij
    have hi' : i < rs.length ∧ i < ps.length := by have h9 := hi; rw [List.length_zip] at h9; omega
    have hj' : j < rs.length ∧ j < ps.length := by have h9 := hj; rw [List.length_zip] at h9; omega
    have := h3 i j ps[i] ps[j] (by omega) (by simp [hi'.2]) (by simp [hj'.2])
    simpa using this
theorem free_of {w : World} {zs : List (RowV × (Nat × Nat))} (h1 : ∀ y ∈ zs, Fresh w y.2.1 y.2.2 3 y.1.A (nums y.1.xs) ∧ y.1.xs.length = y.1.n ∧ y.1.n ≤ 1048576) (h2 : zs.Pairwise (fun a b => a.2.2 ≤ b.2.1 ∨ b.2.2 ≤ a.2.1)) : FreeRows w (zs.map Prod.snd) (zs.map Prod.fst) := by
  refine ⟨by simp, fun k r p hr hp => ?_, fun i j p p' hne hp hp' => ?_⟩
  · rw [List.getElem?_map] at hr hp
    obtain ⟨y, hy, rfl⟩ := Option.map_eq_some_iff.1 hr
    rw [hy] at hp
    obtain rfl : y.2 = p := by simpa using hp
    exact h1 y (List.mem_of_getElem? hy)
  · rw [List.getElem?_map] at hp hp'
    obtain ⟨y, hy, rfl⟩ := Option.map_eq_some_iff.1 hp
    obtain ⟨y', hy', rfl⟩ := Option.map_eq_some_iff.1 hp'
    obtain ⟨hi, rfl⟩ := List.getElem?_eq_some_iff.1 hy
    obtain ⟨hj, rfl⟩ := List.getElem?_eq_some_iff.1 hy'
    rcases Nat.lt_or_gt_of_ne hne with h | h
    · exact List.pairwise_iff_getElem.1 h2 i j hi hj h
    · exact (List.pairwise_iff_getElem.1 h2 j i hj hi h).symm
theorem Heads.some_of {w wr : World} {lo c c' : Nat} {A D : Option Addr} {rs : List RowV} (f : RowV → Bool) (h : Heads w lo A c rs) (hb : Below w.heap.size w wr) (ho : wr.ownsRow w.heap.size 22 1 (.slice D (rs.filter f).length c') (rs.filter f).length (rowVals (rs.filter f))) (hl : lo ≤ w.heap.size) : Heads wr lo D c' (rs.filter f) := by
  obtain ⟨-, ps, hf, hp, -⟩ := h
  obtain ⟨h1, h2⟩ := free_pair hf
  have hz : ((rs.zip ps).filter (fun y => f y.1)).map Prod.fst = rs.filter f := by
    have h0 : (rs.zip ps).map Prod.fst = rs := by rw [List.map_fst_zip]; rw [hf.1]; exact Nat.le_refl _
    have h6 : rs.filter f = ((rs.zip ps).map Prod.fst).filter f := by rw [h0]
    rw [h6, List.filter_map]
    rfl
  have hfree : FreeRows w (((rs.zip ps).filter (fun y => f y.1)).map Prod.snd) (rs.filter f) := by
    rw [← hz]
    exact free_of (fun y hy => h1 y (List.mem_filter.1 hy).1) (h2.sublist List.filter_sublist)
  have hps : ∀ p ∈ ((rs.zip ps).filter (fun y => f y.1)).map Prod.snd, p ∈ ps := fun p hp => by
    obtain ⟨y, hy, rfl⟩ := List.mem_map.1 hp
    exact (List.of_mem_zip (List.mem_filter.1 hy).1).2
  refine ⟨own_lower ho hl, _, hfree.below hb, fun p hp' => ⟨(hp p (hps p hp')).1, Nat.le_trans (hp p (hps p hp')).2 hb.size⟩, fun a ha p hp' => .inr ?_⟩
  subst ha
  exact Nat.le_trans (hp p (hps p hp')).2 (ho.lt a.block rfl).1
theorem subs_any {m m' : Nat} : ∀ (o b : List Int), b.length + o.length ≤ m → b.length + o.length ≤ m' → subs m o b = subs m' o b
  | [], _, _, _ => rfl
  | k :: r, b, h, h' => by
    have h0 : b.length + (r.length + 1) ≤ m := h
    have h0' : b.length + (r.length + 1) ≤ m' := h'
    have e1 : subs m (k :: r) b = ((b ++ [k]) :: subs m r (b ++ [k])) ++ subs m r b := by rw [subs, if_neg (by omega)]
    have e2 : subs m' (k :: r) b = ((b ++ [k]) :: subs m' r (b ++ [k])) ++ subs m' r b := by rw [subs, if_neg (by omega)]
    rw [e1, e2, subs_any (m' := m') r (b ++ [k]) (by simp; omega) (by simp; omega), subs_any (m' := m') r b (by omega) (by omega)]
theorem subs_filter (P : Int → Bool) (m : Nat) : ∀ (o b : List Int), b.length + o.length ≤ m → subs m (o.filter P) b = (subs m o b).filter (fun l => (l.drop b.length).all P)
  | [], _, _ => rfl
  | k :: r, b, h => by
    have h0 : b.length + (r.length + 1) ≤ m := h
    have hd : ∀ l ∈ subs m r (b ++ [k]), ((l.drop b.length).all P) = (P k && (l.drop (b ++ [k]).length).all P) := fun l hl => by
      obtain ⟨c, rfl, -, -, -⟩ := (subs_mem m r (b ++ [k]) l).1 hl
      rw [List.append_assoc, List.drop_left, show b ++ ([k] ++ c) = (b ++ [k]) ++ c by simp, List.drop_left]
      simp
    have ih := subs_filter P m r b (by omega)
    rw [subs, if_neg (by omega), List.filter_append, List.filter_cons, ← ih]
    by_cases hk : P k = true
    · have ih2 := subs_filter P m r (b ++ [k]) (by simp; omega)
      have hlen : (r.filter P).length ≤ r.length := List.length_filter_le _ _
      rw [List.filter_cons, if_pos hk, subs, if_neg (by omega), ih2]
      rw [List.filter_congr hd]
      simp [hk]
    · have hk' : P k = false := by simpa using hk
      rw [List.filter_cons, if_neg hk, List.filter_congr hd]
      simp [hk']
/-- What the model's rides come to. -/
def RidesPost (ls : List (List Int)) (w : World) (e : Ending) (w' : World) : Prop :=
  ∃ (A : Option Addr) (c : Nat) (rs : List RowV), e = .returned (.slice A rs.length c) ∧ rowNums rs = ls ∧ Heads w' w.heap.size A c rs ∧ Below w.heap.size w w'
theorem nums_filter (f : List Int → Bool) (rs : List RowV) : rowNums (rs.filter (fun r => f r.xs)) = (rowNums rs).filter f := by
  rw [rowNums, rowNums, List.filter_map]; rfl
/-- The rides among the groups of those who are where the boat is. -/
theorem rides_groups {xs : List Int} {bs : List Bool} {m : Nat} {s : Int} {sb : List Bool} {t : Bool} (hok : CrewOk xs m s) (hsl : sb.length = xs.length) :
    (subs (hereTo sb t sb.length).length (hereTo sb t sb.length) []).filter (fun l => canRide xs bs s sb t l) = ridesAt sb t (crewLists xs bs s) := by
  have hh : hereTo sb t sb.length = (firsts sb.length).filter (fun k => sb.getD k.toNat false == t) := here_range sb t sb.length
  have hle : (hereTo sb t sb.length).length ≤ sb.length := here_len sb t _
  rw [subs_any (m' := sb.length) (hereTo sb t sb.length) [] (by simp) (by simpa using hle), hh, subs_filter _ _ (firsts sb.length) [] (by simp [firsts_len]), List.filter_filter]
  rw [ridesAt, crewLists, legsIn, List.filter_filter, hsl, upLists]
  refine List.filter_congr fun l hl => ?_
  have hu := up_steps (n := xs.length) (m := xs.length) hl
  have h1 : rising l ((xs.length : Int) - 1) = true := rising_yes hu.1 (Nat.le_refl _)
  have h2 : l ≠ [] := fun e => by subst e; simp at hu
  have h3 : (l.drop ([] : List Int).length).all (fun k => sb.getD k.toNat false == t) = allAt sb t l := rfl
  rw [h3]
  simp only [canRide, h1, legOk, ne_eq, h2, not_false_eq_true, decide_true, Bool.true_and]
  cases allAt sb t l <;> cases canRow bs l <;> cases decide (loadOf xs l ≤ s) <;> rfl

set_option maxHeartbeats 6400000 in
set_option maxRecDepth 100000 in
set_option linter.unusedVariables false in
set_option linter.unusedSimpArgs false in
theorem loRides_any (A : Option Addr) (n c : Nat) (B : Option Addr) (m d : Nat) (xs : List Int) (bs : List Bool) (s : Int) (D : Option Addr) (q z : Nat) (sb : List Bool) (t : Bool) (w : World) (hA : Holds w A (nums xs)) (hB : Holds w B (bits bs)) (hD : Holds w D (bits sb)) (hx : xs.length = n) (hy : bs.length = m) (hqq : sb.length = q) (hok : CrewOk xs m s) (hsl : sb.length = xs.length) :
    Calls Try.prog 133 #[.agg #[.slice A n c, .slice B m d, .int .i64 s], .agg #[.slice D q z, .bool t]] w (RidesPost (ridesAt sb t (crewLists xs bs s)) w) := by
  have hq8 : q ≤ 8 := by have := hok.seven; omega
  obtain ⟨i0, hi, hz0, hz1, hz2⟩ := info_parts info_int
  have HI := Lib.hid hi
  have HZ0 := Lib.hid hz0
  have HZ1 := Lib.hid hz1
  have HZ2 := Lib.hid hz2
  obtain ⟨i1, hi1, hy0, hy1, hy2⟩ := info_parts info_row
  have HI1 := Lib.hid hi1
  have HY0 := Lib.hid hy0
  have HY1 := Lib.hid hy1
  have HY2 := Lib.hid hy2
  have HX := Lib.hid hx
  have HYB := Lib.hid hy
  have HY := Lib.hid hqq
  have HOK := Lib.hid hok
  have HSL := Lib.hid hsl
  have HRG := Lib.hid (rides_groups (bs := bs) (t := t) hok hsl)
  have h0 := (Whole.fresh w 57 #[.slice A n c, .slice B m d, .int .i64 s]).alloc (.cells #[.slice D q z, .bool t] 44)
  have h1 := Whole.fresh (w.alloc (.cells #[.slice A n c, .slice B m d, .int .i64 s] 57)) 44 #[.slice D q z, .bool t]
  rw [World.size_alloc] at h1
  have hbw := below2 w (.cells #[.slice A n c, .slice B m d, .int .i64 s] 57) (.cells #[.slice D q z, .bool t] 44)
  have HBW := Lib.hid hbw
  have HH0 := Lib.hid h0
  have HH1 := Lib.hid h1
  obtain ⟨c0, c1, c2⟩ := h0.cells3
  obtain ⟨e0, e1, -, -⟩ := h1.two
  clear hi hz0 hz1 hz2 hi1 hy0 hy1 hy2 hx hy hqq hok hsl hbw h0 h1
  go_enter Try.func133, Try.ntmps133
  go_wp2
  clear c0 c1 c2 e0 e1
  go_loopw [5, 14] (fun v i wr => ∃ (k : Nat) (E : Option Addr) (r : Nat), k ≤ q ∧ i = .int .i64 k ∧ v = .slice E (hereTo sb t k).length r ∧ wr.ownsRow (w.heap.size + 2) 3 1 (.slice E (hereTo sb t k).length r) (hereTo sb t k).length (nums (hereTo sb t k)) ∧ Below (w.heap.size + 2) ((w.alloc (.cells #[.slice A n c, .slice B m d, .int .i64 s] 57)).alloc (.cells #[.slice D q z, .bool t] 44)) wr) (fun _ i _ => q - (intOf i).toNat)
  case atStart => exact ⟨0, none, 0, Nat.zero_le _, rfl, rfl, World.ownsRow_nil _ _ _ _, Below.refl _ _⟩
  case round =>
    obtain ⟨k, E, r, hk, rfl, rfl, hown, hb⟩ := hrel
    have hb' : Below w.heap.size w wr := HBW.out.trans (hb.mono (by omega))
    have hhl := here_len sb t k
    obtain ⟨c0, c1, c2⟩ := (HH0.out.below' hb (by omega)).cells3
    obtain ⟨e0, e1, -, -⟩ := (HH1.out.below' hb (by omega)).two
    have hs2 : w.heap.size + 2 ≤ wr.heap.size := by have := hb.size; simpa using this
    by_cases hlt : k < q
    · have hkb : k < sb.length := by have := HY.out; omega
      obtain ⟨b1, o1, rfl, hbl1, hcell⟩ := (hD.below hb').look (k := k) (by rw [bits_len]; exact hkb)
      simp only [bits, List.getElem_map] at hcell
      have hg : sb.getD k false = sb[k] := by simp [hkb]
      have hyes := here_yes (bs := sb) (t := t) (k := k)
      have hno := here_no (bs := sb) (t := t) (k := k)
      rw [hg] at hyes hno
      generalize sb[k] = x at hcell hyes hno
      clear hg
      have HOWN := Lib.hid hown
      have HB := Lib.hid hb
      clear hown hb hb'
      by_cases hxt : x = t
      · subst hxt
        have HS := Lib.hid (hyes (by simp))
        have HOW := Lib.hid (HOWN.out.alloc (.cells #[.int .i64 k] 3))
        have HBB := Lib.hid (HB.out.alloc (by simpa using hs2) (.cells #[.int .i64 k] 3))
        have HBASE := Lib.hid (show w.heap.size + 2 ≤ (wr.alloc (.cells #[.int .i64 k] 3)).heap.size by simp; omega)
        have HMAX := Lib.hid (show (hereTo sb x k).length + 1 ≤ maxLen by unfold maxLen; omega)
        have HBYT := Lib.hid (show ((hereTo sb x k).length + 1) * 8 ≤ 140737488355328 by omega)
        have HLEN : Hid ((hereTo sb x (k + 1)).length = (hereTo sb x k).length + 1) := by show _ = _; rw [HS.out]; simp
        clear hyes hno
        go_wp2_with (at_builtin; refine wpList_append_own _ rfl (.tmp 23) (.tmp 25) 22 rfl (w.heap.size + 2) 3 i0 (.int .i64 0) 1 8 Try.underlying22 HI.out HZ0.out HZ1.out HZ2.out rfl (by decide) (.slice E (hereTo sb x k).length r) (hereTo sb x k).length (nums (hereTo sb x k)) rfl HOW.out ⟨wr.heap.size, 0, none⟩ 1 1 [.int .i64 k] rfl rfl (cell_one_new _ _ _) (by simp [Value.oneCell']) HMAX.out HBYT.out HBASE.out ?_; intro v' w2 hown1 hg1 _; obtain ⟨D', q', hv', -⟩ := Fresh.of_own hown1 (Nat.le_refl _); rw [hv'] at hown1 ⊢; clear hv')
        have HBN := Lib.hid (HBB.out.grown hg1 HBASE.out (fun kk e => (HOW.out.lt _ e).1))
        have HON := Lib.hid hown1
        clear hg1 hown1
        go_roundw
        case rel => exact ⟨k + 1, D', q', by omega, by go_num, by rw [HLEN.out], by rw [HLEN.out, HS.out, show nums (hereTo sb x k ++ [(k : Int)]) = nums (hereTo sb x k) ++ [.int .i64 k] by simp [nums]]; exact HON.out, HBN.out⟩
        case measure => simp [intOf]; omega
      · have HS := Lib.hid (hno (by simpa using hxt))
        have hxf : (x == t) = false := by simpa using hxt
        clear hyes hno
        go_wp2
        go_roundw
        case rel => exact ⟨k + 1, E, r, by omega, by go_num, by rw [HS.out], by rw [HS.out]; exact HOWN.out, HB.out⟩
        case measure => simp [intOf]; omega
    · obtain rfl : k = q := by omega
      have HL := Lib.hid (here_len sb t k)
      have HHH := Lib.hid (holds_of_own hown)
      have hwz : w.heap.size ≤ wr.heap.size := by omega
      have HWZ := Lib.hid hwz
      have HB' := Lib.hid hb'
      rw [HY.out] at HRG
      have hcW := HH0.out.below' hb (by omega)
      have hsW := HH1.out.below' hb (by omega)
      clear hown hb hb' hwz
      go_wp2_with fail
      refine (paGroups_any (hereTo sb t k).length (by omega) 10 none E 0 0 (hereTo sb t k).length r 0 [] (hereTo sb t k) _ (by omega) (by omega) (Nat.zero_le _) (Holds.empty _ _) HHH.out rfl rfl (Nat.zero_le _) (fun _ => ⟨rfl, rfl⟩)).mono ?_
      rintro e w4 ⟨A4, c4, rs4, rfl, hr4, hn4, hs4, hh4, hb4⟩
      rw [show groups (hereTo sb t k).length ((hereTo sb t k).drop 0) [] = subs (hereTo sb t k).length (hereTo sb t k) [] from rfl] at hr4
      have hrl : rs4.length ≤ 255 := by
        have h1 := congrArg List.length hr4
        rw [rowNums_len] at h1
        rw [h1]; exact subs_small (by omega)
      have HR4 := Lib.hid hr4
      have HH4 := Lib.hid hh4
      have HB4 := Lib.hid (below_then HB'.out hb4 HWZ.out)
      have HC4 := Lib.hid (hcW.below hb4)
      have HS4 := Lib.hid (hsW.below hb4)
      have HZ4 := Lib.hid (show w.heap.size ≤ w4.heap.size from Nat.le_trans HWZ.out hb4.size)
      have HRZ := Lib.hid hb4.size
      clear hr4 hn4 hs4 hh4 hb4 c0 c1 c2 e0 e1 hcW hsW
      go_wp2
      go_loopw [8, 33] (fun v i wx => ∃ (j : Nat) (F : Option Addr) (c5 : Nat), j ≤ rs4.length ∧ i = .int .i64 j ∧ v = .slice F ((rs4.take j).filter (fun r => canRide xs bs s sb t r.xs)).length c5 ∧ wx.ownsRow w4.heap.size 22 1 (.slice F ((rs4.take j).filter (fun r => canRide xs bs s sb t r.xs)).length c5) ((rs4.take j).filter (fun r => canRide xs bs s sb t r.xs)).length (rowVals ((rs4.take j).filter (fun r => canRide xs bs s sb t r.xs))) ∧ Below w4.heap.size w4 wx) (fun _ i _ => rs4.length - (intOf i).toNat)
      case atStart => exact ⟨0, none, 0, Nat.zero_le _, rfl, rfl, World.ownsRow_nil _ _ _ _, Below.refl _ _⟩
      case round =>
        obtain ⟨j, F, c5, hj, rfl, rfl, hown, hb⟩ := hrel
        have hsl2 : ((rs4.take j).filter (fun r => canRide xs bs s sb t r.xs)).length ≤ 255 := Nat.le_trans (List.length_filter_le _ _) (by rw [List.length_take]; omega)
        by_cases hlt : j < rs4.length
        · have hd : decide ((j : Int) < (rs4.length : Int)) = true := by simp; omega
          obtain ⟨b5, o5, rfl, hbl5, hcell5, hrow5, hrl5, hrn5⟩ := (HH4.out.free.grid.below hb).look hlt
          have hnx : ∀ f : RowV → Bool, (rs4.take (j + 1)).filter f = (rs4.take j).filter f ++ (if f rs4[j] then [rs4[j]] else []) := fun f => by
            rw [List.take_succ_eq_append_getElem hlt, List.filter_append]
            by_cases hf : f rs4[j] = true <;> simp [hf]
          have HNX := Lib.hid (hnx (fun r => canRide xs bs s sb t r.xs))
          clear hnx
          generalize (rs4.take j).filter (fun r => canRide xs bs s sb t r.xs) = sel at hown hsl2 HNX ⊢
          obtain ⟨c0, c1, c2⟩ := (HC4.out.below hb).cells3
          obtain ⟨e0, e1, -, -⟩ := (HS4.out.below hb).two
          have hbw5 : Below w.heap.size w wr := below_then HB4.out hb HZ4.out
          have HOWN := Lib.hid hown
          have HB := Lib.hid hb
          have HBW5 := Lib.hid hbw5
          generalize hrj : rs4[j] = rr at hcell5 hrow5 hrl5 hrn5 HNX
          clear hrj hown hb hbw5
          obtain ⟨rA, rn, rc, rx⟩ := rr
          simp only [RowV.val] at hcell5 hrow5 hrl5 hrn5
          have HRW := Lib.hid hrow5
          have HRL := Lib.hid hrl5
          clear hrow5 hrl5
          go_wp2_with fail
          refine (loCan_any A n c B m d xs bs s D k z sb t rA rn rc rx wr (by exact hA.below HBW5.out) (by exact hB.below HBW5.out) (by exact hD.below HBW5.out) HRW.out HX.out HYB.out HY.out HRL.out hrn5 HOK.out HSL.out).mono ?_
          rintro e w6 ⟨rfl, hb⟩
          have HB6 := Lib.hid (below_then HB.out hb HB.out.size)
          have HO6 := Lib.hid (ownsRow_below HOWN.out hb)
          clear hb c0 c1 c2 e0 e1 hcell5
          cases hcr : canRide xs bs s sb t rx
          · have HS := Lib.hid (HNX.out.trans (by simp [hcr] : sel ++ (if (fun r : RowV => canRide xs bs s sb t r.xs) ⟨rA, rn, rc, rx⟩ then [(⟨rA, rn, rc, rx⟩ : RowV)] else []) = sel))
            clear hcr
            go_wp2
            go_roundw
            case rel => exact ⟨j + 1, F, c5, by omega, by go_num, by rw [HS.out], by rw [HS.out]; exact HO6.out, HB6.out⟩
            case measure => simp [intOf]; omega
          · have HS := Lib.hid (HNX.out.trans (by simp [hcr] : sel ++ (if (fun r : RowV => canRide xs bs s sb t r.xs) ⟨rA, rn, rc, rx⟩ then [(⟨rA, rn, rc, rx⟩ : RowV)] else []) = sel ++ [⟨rA, rn, rc, rx⟩]))
            have HSL1 : Hid ((sel ++ [(⟨rA, rn, rc, rx⟩ : RowV)]).length = sel.length + 1) := by show _ = _; simp
            have HSV : Hid (rowVals (sel ++ [(⟨rA, rn, rc, rx⟩ : RowV)]) = rowVals sel ++ [.slice rA rn rc]) := by show _ = _; simp [rowVals, RowV.val]
            have HOW := Lib.hid (HO6.out.alloc (.cells #[.slice rA rn rc] 22))
            have HBB := Lib.hid (HB6.out.alloc HB6.out.size (.cells #[.slice rA rn rc] 22))
            have hz6 := HB6.out.size
            have HBASE := Lib.hid (show w4.heap.size ≤ (w6.alloc (.cells #[.slice rA rn rc] 22)).heap.size by simp; omega)
            have HMAX := Lib.hid (show sel.length + 1 ≤ maxLen by unfold maxLen; omega)
            have HBYT := Lib.hid (show (sel.length + 1) * 24 ≤ 140737488355328 by omega)
            have HCN := Lib.hid (cell_one_new w6 (.slice rA rn rc) 22)
            clear hcr hz6
            go_wp2_with (at_builtin; refine wpList_append_own _ rfl (.tmp 41) (.tmp 43) 32 rfl w4.heap.size 22 i1 (.slice none 0 0) 1 24 Try.underlying32 HI1.out HY0.out HY1.out HY2.out rfl (by decide) (.slice F sel.length c5) sel.length (rowVals sel) rfl HOW.out ⟨w6.heap.size, 0, none⟩ 1 1 [.slice rA rn rc] rfl rfl HCN.out (by simp [Value.oneCell']) HMAX.out HBYT.out HBASE.out ?_; intro v' w7 hown1 hg1 _; obtain ⟨g2, e2, hv2⟩ := own_form hown1; subst hv2)
            have HBN := Lib.hid (HBB.out.grown hg1 HBASE.out (fun kk hkk => (HOW.out.lt kk hkk).1))
            have HON := Lib.hid hown1
            clear hown1 hg1
            go_roundw
            case rel => exact ⟨j + 1, some ⟨g2, 0, none⟩, e2, by omega, by go_num, by rw [HS.out, HSL1.out], by rw [HS.out, HSL1.out, HSV.out]; exact HON.out, HBN.out⟩
            case measure => simp [intOf]; omega
        · obtain rfl : j = rs4.length := by omega
          have hd : decide ((rs4.length : Int) < (rs4.length : Int)) = false := by simp
          rw [List.take_length] at hown ⊢
          have HHD := Lib.hid ((Heads.some_of (fun r => canRide xs bs s sb t r.xs) HH4.out hb hown HRZ.out).raise HWZ.out)
          have HBN := Lib.hid (below_then HB4.out hb HZ4.out)
          have HRN := Lib.hid (nums_filter (fun l => canRide xs bs s sb t l) rs4)
          clear hown hb
          go_wp2
          go_ret
          exact ⟨F, c5, _, rfl, by rw [HRN.out, HR4.out, HRG.out], HHD.out, HBN.out⟩

theorem rides_le {n : Nat} {xs : List Int} {bs : List Bool} {m : Nat} {s : Int} {sb : List Bool} {t : Bool} : (ridesLs xs bs m s sb t).length ≤ 1048576 ∧ ((ridesLs xs bs m s sb t).map List.length).sum ≤ 1048576 := by
  unfold ridesLs
  cases hp : crewState xs m s sb t
  · simp
  obtain ⟨hok, hsl⟩ := crewState_ok hp
  rw [if_pos rfl]
  have h1 : (ridesAt sb t (crewLists xs bs s)).length ≤ 255 := Nat.le_trans (rides_len _ _ _) (crew_small bs s hok.seven)
  have h2 : ∀ l ∈ ridesAt sb t (crewLists xs bs s), l.length ≤ 7 := fun l hl => by
    have h3 := up_steps (crew_up (List.mem_filter.1 hl).1)
    have := hok.seven
    omega
  have h3 : ∀ (L : List (List Int)), (∀ l ∈ L, l.length ≤ 7) → (L.map List.length).sum ≤ 7 * L.length := fun L => by
    induction L with
    | nil => intro _; simp
    | cons l L ih =>
      intro h
      have := ih fun x hx => h x (List.mem_cons_of_mem _ hx)
      have := h l (List.mem_cons_self ..)
      simp only [List.map_cons, List.sum_cons, List.length_cons]
      omega
  have := h3 _ h2
  omega
end Go.Proofs.Ytlpeimlbpiofkaa

namespace Go.Proofs.Ytlpeimlbpiofkaa
open Go.RowKit

theorem num_next {bs : List Bool} {j : Nat} (hj : j < bs.length) (a : Nat) : num (bs.take (j + 1)) a = 2 * num (bs.take j) a + bs[j].toNat := by rw [List.take_succ_eq_append_getElem hj, num_snoc]
theorem num_small {bs : List Bool} (j : Nat) (hn : bs.length ≤ 8) (t : Bool) : num (bs.take j) t.toNat < 512 := by
  have h := num_lt (bs.take j) t
  have h2 : 2 ^ ((bs.take j).length + 1) ≤ 2 ^ 9 := Nat.pow_le_pow_right (by omega) (by rw [List.length_take]; omega)
  omega

set_option maxHeartbeats 3200000 in
set_option linter.unusedSimpArgs false in
set_option linter.unusedVariables false in
theorem seIndex_any (A : Option Addr) (n c : Nat) (bs : List Bool) (t : Bool) (w : World) (hA : Holds w A (bits bs)) (hx : bs.length = n) (hn : n ≤ 8) :
    Calls Try.prog 77 #[.agg #[.slice A n c, .bool t]] w fun e w' => e = .returned (.int .i64 (num bs t.toNat : Nat)) ∧ Below w.heap.size w w' := by
  subst hx
  have hs := Whole.fresh w 44 #[.slice A bs.length c, .bool t]
  have ht := below1 w (.cells #[.slice A bs.length c, .bool t] 44)
  have hB := hA.below ht
  obtain ⟨c0, c1, -, -⟩ := hs.two
  go_enter Try.func77, Try.ntmps77
  cases t
  · have HS : Hid (num (bs.take 0) (Bool.toNat false) = 0) := by show _ = _; simp [num]
    go_wp2
    go_loop [3, 11] (fun v i => ∃ j : Nat, j ≤ bs.length ∧ i = .int .i64 j ∧ v = .int .i64 (num (bs.take j) (Bool.toNat false) : Nat)) (fun _ i => bs.length - (intOf i).toNat)
    case atStart => exact ⟨0, Nat.zero_le _, rfl, by rw [HS.out]; rfl⟩
    case round =>
      clear HS
      obtain ⟨j, hj, rfl, rfl⟩ := hrel
      by_cases hlt : j < bs.length
      · obtain ⟨b, o, rfl, hbl, hcc⟩ := hB.look (k := j) (by simpa [bits] using hlt)
        simp only [bits, List.getElem_map] at hcc
        have hnx := num_next hlt (Bool.toNat false)
        have hsm := num_small (bs := bs) j hn false
        generalize num (bs.take j) (Bool.toNat false) = a at hnx hsm ⊢
        have hw1 : IntKind.i64.wrap ((a : Int) * 2) = (a : Int) * 2 := IntWalk.i64_in _ (by omega)
        have hw2 : IntKind.i64.wrap ((a : Int) * 2 + 1) = (a : Int) * 2 + 1 := IntWalk.i64_in _ (by omega)
        have HNX := Lib.hid hnx
        clear hnx
        cases he : bs[j]
        · rw [he] at hcc HNX
          clear he
          go_wp2
          go_round
          case rel => exact ⟨j + 1, by omega, by go_num, by rw [HNX.out]; simp; omega⟩
          case measure => simp [intOf]; omega
        · rw [he] at hcc HNX
          clear he
          go_wp2
          go_round
          case rel => exact ⟨j + 1, by omega, by go_num, by rw [HNX.out]; simp; omega⟩
          case measure => simp [intOf]; omega
      · obtain rfl : j = bs.length := by omega
        have hd : decide ((bs.length : Int) < (bs.length : Int)) = false := by simp
        have HT : Hid (bs.take bs.length = bs) := by show _ = _; simp
        go_wp2
        go_ret
        exact ⟨ret_of rfl, ht⟩
  · have HS : Hid (num (bs.take 0) (Bool.toNat true) = 1) := by show _ = _; simp [num]
    go_wp2
    go_loop [3, 11] (fun v i => ∃ j : Nat, j ≤ bs.length ∧ i = .int .i64 j ∧ v = .int .i64 (num (bs.take j) (Bool.toNat true) : Nat)) (fun _ i => bs.length - (intOf i).toNat)
    case atStart => exact ⟨0, Nat.zero_le _, rfl, by rw [HS.out]; rfl⟩
    case round =>
      clear HS
      obtain ⟨j, hj, rfl, rfl⟩ := hrel
      by_cases hlt : j < bs.length
      · obtain ⟨b, o, rfl, hbl, hcc⟩ := hB.look (k := j) (by simpa [bits] using hlt)
        simp only [bits, List.getElem_map] at hcc
        have hnx := num_next hlt (Bool.toNat true)
        have hsm := num_small (bs := bs) j hn true
        generalize num (bs.take j) (Bool.toNat true) = a at hnx hsm ⊢
        have hw1 : IntKind.i64.wrap ((a : Int) * 2) = (a : Int) * 2 := IntWalk.i64_in _ (by omega)
        have hw2 : IntKind.i64.wrap ((a : Int) * 2 + 1) = (a : Int) * 2 + 1 := IntWalk.i64_in _ (by omega)
        have HNX := Lib.hid hnx
        clear hnx
        cases he : bs[j]
        · rw [he] at hcc HNX
          clear he
          go_wp2
          go_round
          case rel => exact ⟨j + 1, by omega, by go_num, by rw [HNX.out]; simp; omega⟩
          case measure => simp [intOf]; omega
        · rw [he] at hcc HNX
          clear he
          go_wp2
          go_round
          case rel => exact ⟨j + 1, by omega, by go_num, by rw [HNX.out]; simp; omega⟩
          case measure => simp [intOf]; omega
      · obtain rfl : j = bs.length := by omega
        have hd : decide ((bs.length : Int) < (bs.length : Int)) = false := by simp
        have HT : Hid (bs.take bs.length = bs) := by show _ = _; simp
        go_wp2
        go_ret
        exact ⟨ret_of rfl, ht⟩
end Go.Proofs.Ytlpeimlbpiofkaa

namespace Go.Proofs.Ytlpeimlbpiofkaa
open Go.RowKit

/-- The torch in a state's number. -/
def topBit (n x : Nat) : Bool := x / 2 ^ n == 1
/-- Behind the making of the state: its block and its list's. -/
def SeMade (n : Nat) (tb : Bool) (w : World) (v : Value) (wx : World) : Prop :=
  ∃ gs gb : Nat, v = .pointer (some ⟨gb, 0, none⟩) ∧ gs ≠ gb ∧ w.heap.size + 1 ≤ gs ∧ w.heap.size + 1 ≤ gb ∧ gs < wx.heap.size ∧
    Whole wx w.heap.size 44 #[.slice none 0 0, .bool false] ∧ Whole wx gb 44 #[.slice (some ⟨gs, 0, none⟩) n n, .bool tb] ∧ Whole wx gs 4 (bits (falses n)).toArray ∧ Below w.heap.size w wx

theorem top_int (n x : Nat) : ((x : Int) / 2 ^ n == 1) = topBit n x := by
  have h : (x : Int) / 2 ^ n = ((x / 2 ^ n : Nat) : Int) := by norm_cast
  rw [h, topBit]
  by_cases h : x / 2 ^ n = 1
  · simp [h]
  · have : ((x / 2 ^ n : Nat) : Int) ≠ 1 := by omega
    rw [beq_eq_false_iff_ne.2 this, beq_eq_false_iff_ne.2 h]
theorem digit_int (n x j : Nat) (hx : x < 1048576) (hj : j < n) : (Go.bits BinOp.and IntKind.i64 ((x : Int) / 2 ^ (n - 1 - j)) 1 == 1) = (digits n x)[j]'(by rw [digits_len]; exact hj) := by
  have h1 : x / 2 ^ (n - 1 - j) ≤ x := Nat.div_le_self _ _
  rw [shr_nat, show (1 : Int) = ((1 : Nat) : Int) from rfl, bits_and_nat _ 1 (by omega) (by omega), Nat.and_one_is_mod]
  simp only [digits, List.getElem_map, List.getElem_range]
  generalize x / 2 ^ (n - 1 - j) = y
  by_cases h : y % 2 = 1
  · simp [h]
  · have : y % 2 = 0 := by omega
    simp [this]
theorem se_ab (n : Nat) (tb : Bool) (w : World) : SeMade n tb w (.pointer (some ⟨w.heap.size + 1 + 1, 0, none⟩)) (((w.alloc (.cells #[.slice none 0 0, .bool false] 44)).alloc (.cells (bits (falses n)).toArray 4)).alloc (.cells #[.slice (some ⟨w.heap.size + 1, 0, none⟩) n n, .bool tb] 44)).drew := by
  refine ⟨w.heap.size + 1, w.heap.size + 1 + 1, rfl, by omega, Nat.le_refl _, by omega, by simp [World.drew], ?_, ?_, ?_, (below3 w _ _ _).drew⟩
  · exact (((Whole.fresh w _ _).alloc _).alloc _).drew
  · have h := Whole.fresh ((w.alloc (.cells #[.slice none 0 0, .bool false] 44)).alloc (.cells (bits (falses n)).toArray 4)) 44 #[.slice (some ⟨w.heap.size + 1, 0, none⟩) n n, .bool tb]
    simp only [World.size_alloc] at h
    exact h.drew
  · have h := (Whole.fresh (w.alloc (.cells #[.slice none 0 0, .bool false] 44)) 4 (bits (falses n)).toArray).alloc (.cells #[.slice (some ⟨w.heap.size + 1, 0, none⟩) n n, .bool tb] 44)
    simp only [World.size_alloc] at h
    exact h.drew
theorem se_ba (n : Nat) (tb : Bool) (w : World) : SeMade n tb w (.pointer (some ⟨w.heap.size + 1, 0, none⟩)) (((w.alloc (.cells #[.slice none 0 0, .bool false] 44)).alloc (.cells #[.slice (some ⟨w.heap.size + 1 + 1, 0, none⟩) n n, .bool tb] 44)).alloc (.cells (bits (falses n)).toArray 4)).drew := by
  refine ⟨w.heap.size + 1 + 1, w.heap.size + 1, rfl, by omega, by omega, Nat.le_refl _, by simp [World.drew], ?_, ?_, ?_, (below3 w _ _ _).drew⟩
  · exact (((Whole.fresh w _ _).alloc _).alloc _).drew
  · have h := (Whole.fresh (w.alloc (.cells #[.slice none 0 0, .bool false] 44)) 44 #[.slice (some ⟨w.heap.size + 1 + 1, 0, none⟩) n n, .bool tb]).alloc (.cells (bits (falses n)).toArray 4)
    simp only [World.size_alloc] at h
    exact h.drew
  · have h := Whole.fresh ((w.alloc (.cells #[.slice none 0 0, .bool false] 44)).alloc (.cells #[.slice (some ⟨w.heap.size + 1 + 1, 0, none⟩) n n, .bool tb] 44)) 4 (bits (falses n)).toArray
    simp only [World.size_alloc] at h
    exact h.drew

set_option maxHeartbeats 6400000 in
set_option maxRecDepth 100000 in
set_option linter.unusedSimpArgs false in
theorem seState_own (n x : Nat) (w : World) (hn : n ≤ 8) (hx : x < 1048576) :
    Calls Try.prog 83 #[.int .i64 x, .int .i64 n] w (fun e w' => ∃ (E : Option Addr) (r : Nat), e = .returned (.agg #[.slice E n r, .bool (topBit n x)]) ∧ Fresh w' w.heap.size w'.heap.size 4 E (bits (digits n x)) ∧ Below w.heap.size w w') := by
  obtain ⟨i0, hi, hz0, hz1, hz2⟩ := info_parts info_bool
  have hmk : ∀ W : World, (Instr.makeSlice 38 (.int .i64 (n : Int)) (.int .i64 (n : Int))).run Try.prog W = .ok (.slice (some ⟨W.heap.size, 0, none⟩) n n) (W.alloc (.cells (bits (falses n)).toArray 4)) := by
    intro W
    have h := run_make (P := Try.prog) W 38 4 i0 _ Try.underlying38 hi hz0 .i64 .i64 n n (by omega) (by omega) (by rw [hz2]; omega) (by omega)
    simp only [Int.toNat_natCast, hz1, made_falses] at h
    rw [h]
    rfl
  clear hi hz0 hz1 hz2
  have htb := top_int n x
  generalize topBit n x = tb at htb ⊢
  go_enter Try.func83, Try.ntmps83
  go_upto_region 1 with fail
  go_cut [5] (fun v wx => SeMade n tb w v wx)
  case first =>
    go_region_held3 (fun w' => True) (go_keep) (fail)
    all_goals (go_wp2_with fail; go_meet)
    all_goals first | exact se_ab n tb w | exact se_ba n tb w
  obtain ⟨gs, gb, rfl, hne, h1, h2, h3, hr, hsb, hsl, hb⟩ := hcut
  clear hmk htb
  obtain ⟨c0, c1, -, -⟩ := hsb.two
  go_wp2
  have HR := Lib.hid hr
  have HSB := Lib.hid hsb
  have HSL := Lib.hid hsl
  have HB := Lib.hid hb
  clear hr hsb hsl hb c0 c1
  go_loopw [17] (fun i wr => ∃ j : Nat, j ≤ n ∧ i = .int .i64 j ∧ Whole wr w.heap.size 44 #[.slice none 0 0, .bool false] ∧ Whole wr gb 44 #[.slice (some ⟨gs, 0, none⟩) n n, .bool tb] ∧ Whole wr gs 4 (filledB (digits n x) j) ∧ Below w.heap.size w wr) (fun i _ => n - (intOf i).toNat)
  case atStart => exact ⟨0, Nat.zero_le _, rfl, HR.out, HSB.out, by rw [show filledB (digits n x) 0 = (bits (falses n)).toArray by simp [filledB, digits_len, falses]]; exact HSL.out, HB.out⟩
  case round =>
    clear HR HSB HSL HB
    obtain ⟨j, hj, rfl, hr, hsb, hsl, hb⟩ := hrel
    by_cases hlt : j < n
    · obtain ⟨c0, c1, -, -⟩ := hsb.two
      have hnw : IntKind.i64.wrap ((n : Int) - 1) = (n : Int) - 1 := IntWalk.i64_in _ (by omega)
      have hnj : IntKind.i64.wrap ((n : Int) - 1 - (j : Int)) = ((n - 1 - j : Nat) : Int) := by rw [IntWalk.i64_in _ (by omega)]; omega
      have hlen : j < (digits n x).length := by rw [digits_len]; exact hlt
      have hcell := (hsl.cell j).trans (filledB_at (digits n x) hlen)
      have hfr := hsl.open_ j
      have hji : (j : Int) < (n : Int) := by omega
      have hsl0 := hsl.lt
      have hbit := digit_int n x j hx hlt
      have HNX := Lib.hid (filledB_next (digits n x) hlen)
      have HR := Lib.hid hr
      have HSB := Lib.hid hsb
      have HSL := Lib.hid hsl
      have HB := Lib.hid hb
      have hrl := hr.lt
      clear hr hsb hsl hb
      generalize (digits n x)[j] = b at hbit HNX
      go_wp2_with fail
      go_region_held3 (fun w' => w'.cell? ⟨gb, 0, none⟩ = some (.slice (some ⟨gs, 0, none⟩) n n)) (go_keep) (fail)
      go_wp2
      go_roundw
      case rel => exact ⟨j + 1, by omega, by go_num, (HR.out.off (by omega)).drew, (HSB.out.off (fun h => hne h.symm)).drew, (by have h := HSL.out.set_ j (.bool b); rw [HNX.out] at h; exact h.drew), (below_set HB.out (by omega)).drew⟩
      case measure => simp [intOf]; omega
    · obtain rfl : j = n := by omega
      have hd : decide ((j : Int) < (j : Int)) = false := by simp
      obtain ⟨d0, d1, -, -⟩ := hsb.two
      obtain ⟨e0, e1, f0, f1⟩ := hr.two
      have hl1 := hr.lt
      have hsl' : Whole wr gs 4 (bits (digits j x)).toArray := by
        have h := filledB_done (digits j x)
        rw [digits_len] at h
        rw [← h]
        exact hsl
      have HF := Lib.hid (Fresh.of_whole (lo := w.heap.size) (hi := wr.heap.size) ((hsl'.off (b := w.heap.size) (o := 0) (u := .slice (some ⟨gs, 0, none⟩) j j) (by omega)).off (b := w.heap.size) (o := 1) (u := .bool tb) (by omega)) (by omega) hsl'.lt)
      have HB := Lib.hid (below_set (b := w.heap.size) (o := 1) (u := .bool tb) (below_set (b := w.heap.size) (o := 0) (u := .slice (some ⟨gs, 0, none⟩) j j) hb (Nat.le_refl _)) (Nat.le_refl _))
      clear hr hsb hsl hsl' hb
      go_wp2
      refine bodyPost_ret (v := .agg #[.slice (some ⟨gs, 0, none⟩) j j, .bool tb]) (by simp [results, Try.results83, go_sem, e0, e1]) rfl ⟨some ⟨gs, 0, none⟩, j, rfl, ?_, HB.out⟩
      have h := HF.out
      simpa [World.setCell] using h
end Go.Proofs.Ytlpeimlbpiofkaa

namespace Go.Proofs.Ytlpeimlbpiofkaa

section
variable {α : Type} [DecidableEq α]
/-- What waits behind one trip: to the place e.1 in the time e.2 from a place reached in m; what is reached (R) is left. -/
def wait1 (m : Int) (R W : α → Option Int) (e : α × Int) : α → Option Int := fun y =>
  if y = e.1 ∧ R e.1 = none ∧ (∀ k, W e.1 = some k → m + e.2 < k) then some (m + e.2) else W y
def waitAll (m : Int) (R : α → Option Int) (es : List (α × Int)) (W : α → Option Int) : α → Option Int := es.foldl (wait1 m R) W
theorem waitAll_snoc (m : Int) (R : α → Option Int) (es : List (α × Int)) (e : α × Int) (W : α → Option Int) : waitAll m R (es ++ [e]) W = wait1 m R (waitAll m R es W) e := by simp [waitAll, List.foldl_append]
/-- What waits, waits no longer. -/
theorem waitAll_still (m : Int) (R : α → Option Int) : ∀ (es : List (α × Int)) (W : α → Option Int) (y : α) (b : Int), W y = some b → ∃ c, waitAll m R es W y = some c ∧ c ≤ b := by
  intro es
  induction es with
  | nil => exact fun W y b h => ⟨b, h, Int.le_refl _⟩
  | cons e es ih =>
    intro W y b h
    have h1 : ∃ c, wait1 m R W e y = some c ∧ c ≤ b := by
      unfold wait1
      split
      · rename_i hc
        have := hc.2.2 b (by rw [← hc.1]; exact h)
        exact ⟨_, rfl, by omega⟩
      · exact ⟨b, h, Int.le_refl _⟩
    obtain ⟨c, hc, hle⟩ := h1
    obtain ⟨c', hc', hle'⟩ := ih (wait1 m R W e) y c hc
    exact ⟨c', hc', Int.le_trans hle' hle⟩
/-- Each trip's place that is not reached waits for no more than the trip's time. -/
theorem waitAll_to (m : Int) (R : α → Option Int) : ∀ (es : List (α × Int)) (W : α → Option Int) (e : α × Int), e ∈ es → R e.1 = none → ∃ c, waitAll m R es W e.1 = some c ∧ c ≤ m + e.2 := by
  intro es
  induction es with
  | nil => intro W e h; cases h
  | cons a es ih =>
    intro W e he hr
    rcases List.mem_cons.1 he with rfl | he
    · have h1 : ∃ c, wait1 m R W e e.1 = some c ∧ c ≤ m + e.2 := by
        unfold wait1
        by_cases hw : ∀ k, W e.1 = some k → m + e.2 < k
        · exact ⟨_, if_pos ⟨rfl, hr, hw⟩, Int.le_refl _⟩
        · rw [if_neg (fun hh => hw hh.2.2)]
          cases hk : W e.1 with
          | none => exact absurd (fun k h => by rw [hk] at h; cases h) hw
          | some k =>
            refine ⟨k, rfl, ?_⟩
            by_cases hlt : m + e.2 < k
            · exact absurd (fun k' h => by rw [hk] at h; rw [← Option.some.inj h]; exact hlt) hw
            · omega
      obtain ⟨c, hc, hle⟩ := h1
      obtain ⟨c', hc', hle'⟩ := waitAll_still m R es (wait1 m R W e) e.1 c hc
      exact ⟨c', hc', Int.le_trans hle' hle⟩
    · exact ih (wait1 m R W a) e he hr
/-- What waits has waited, or a trip leads there. -/
theorem waitAll_from (m : Int) (R : α → Option Int) : ∀ (es : List (α × Int)) (W : α → Option Int) (y : α) (b : Int), waitAll m R es W y = some b → W y = some b ∨ ∃ e, e ∈ es ∧ e.1 = y ∧ b = m + e.2 ∧ R y = none := by
  intro es
  induction es with
  | nil => exact fun W y b h => .inl h
  | cons a es ih =>
    intro W y b h
    rcases ih (wait1 m R W a) y b h with h | ⟨e, he, h1, h2, h3⟩
    · unfold wait1 at h
      split at h
      · rename_i hc
        exact .inr ⟨a, by simp, hc.1.symm, (Option.some.inj h).symm, by rw [hc.1]; exact hc.2.1⟩
      · exact .inl h
    · exact .inr ⟨e, by simp [he], h1, h2, h3⟩

/-- One round: all places of L, which wait for the least time, are settled; their trips are es. -/
theorem round_all {E : α → Int → α → Prop} {src : α} {R W : α → Option Int} {L : List α} {m : Int} {es : List (α × Int)} (hk : Seek E src R W) (hL : ∀ x, x ∈ L ↔ W x = some m) (hne : L ≠ []) (hleast : ∀ y b, W y = some b → m ≤ b)
    (h1 : ∀ x t y, x ∈ L → E x t y → (y, t) ∈ es) (h2 : ∀ e ∈ es, ∃ x, x ∈ L ∧ E x e.2 e.1) :
    SeekRound E R W (· ∈ L) m (fun x => if x ∈ L then some m else R x) (waitAll m (fun x => if x ∈ L then some m else R x) es (fun x => if x ∈ L then none else W x)) := by
  obtain ⟨x0, r, rfl⟩ := List.exists_cons_of_ne_nil hne
  refine ⟨hleast, fun x h => (hL x).1 h, ⟨x0, by simp⟩, fun x h => if_pos h, fun x h => if_neg h, fun x a h => ?_, fun x t y h he hr => ?_, fun y b hy hr => ?_, fun y b hy => ?_⟩
  · cases hw : waitAll m (fun x => if x ∈ x0 :: r then some m else R x) es (fun x => if x ∈ x0 :: r then none else W x) x with
    | none => rfl
    | some b =>
      exfalso
      rcases waitAll_from m _ es _ x b hw with h3 | ⟨e, -, -, -, h3⟩
      · by_cases hx : x ∈ x0 :: r
        · simp only [if_pos hx] at h3
          cases h3
        · simp only [if_neg hx] at h3 h
          rw [hk.apart x a h] at h3
          cases h3
      · rw [h3] at h
        cases h
  · exact waitAll_to m _ es _ (y, t) (h1 x t y h he) hr
  · refine waitAll_still m _ es _ y b ?_
    by_cases hy' : y ∈ x0 :: r
    · simp only [if_pos hy'] at hr
      cases hr
    · simp only [if_neg hy']
      exact hy
  · rcases waitAll_from m _ es _ y b hy with h3 | ⟨e, he, rfl, rfl, h3⟩
    · left
      by_cases hy' : y ∈ x0 :: r
      · simp only [if_pos hy'] at h3
        cases h3
      · simp only [if_neg hy'] at h3 ⊢
        refine ⟨h3, ?_⟩
        cases hr : R y with
        | none => rfl
        | some a =>
          rw [hk.apart y a hr] at h3
          cases h3
    · obtain ⟨x, hx, hxe⟩ := h2 e he
      exact .inr ⟨x, e.2, hx, hxe, rfl⟩
end
end Go.Proofs.Ytlpeimlbpiofkaa

namespace Go.Proofs.Ytlpeimlbpiofkaa
open Go.RowKit

/-- A slice of the call's own whose first element may lie anywhere in its block. -/
def Win (w : World) (base : Nat) (e : TypeId) (size : Nat) (v : Value) (n : Nat) (xs : List Value) : Prop :=
  xs.length = n * size ∧ ∃ g o cap cur, v = .slice (some ⟨g, o, none⟩) n cap ∧ base ≤ g ∧ w.heap[g]? = some (.cells cur e (0, 0)) ∧ n ≤ cap ∧ cap ≤ maxLen ∧ o + cap * size ≤ cur.size ∧ (cur.toList.drop o).take (n * size) = xs

section
variable {w w' : World} {base n size : Nat} {e : TypeId} {v : Value} {xs : List Value}
theorem Win.below (h : Win w base e size v n xs) (hb : Below w.heap.size w w') : Win w' base e size v n xs := by
  obtain ⟨h1, g, o, cap, cur, h2, h3, h4, r⟩ := h
  exact ⟨h1, g, o, cap, cur, h2, h3, (hb.block g (Array.getElem?_eq_some_iff.1 h4).1).trans h4, r⟩
theorem Win.kept {row : Option Nat} (h : Win w base e size v n xs) (hg : w.grownBy w' row) (hne : v.ownBlock ≠ row) : Win w' base e size v n xs := by
  obtain ⟨h1, g, o, cap, cur, rfl, h3, h4, r⟩ := h
  exact ⟨h1, g, o, cap, cur, rfl, h3, (hg.block g (Array.getElem?_eq_some_iff.1 h4).1 hne).trans h4, r⟩
theorem Win.alloc (h : Win w base e size v n xs) (o : Obj) : Win (w.alloc o) base e size v n xs := h.below (below1 w o)
theorem Win.drew (h : Win w base e size v n xs) : Win w.drew base e size v n xs := h
theorem Win.off {b o : Nat} {u : Value} (h : Win w base e size v n xs) (hb : b < base) : Win (w.setCell ⟨b, o, none⟩ u) base e size v n xs := by
  obtain ⟨h1, g, o', cap, cur, h2, h3, h4, r⟩ := h
  exact ⟨h1, g, o', cap, cur, h2, h3, (Below.heap_setCell w ⟨b, o, none⟩ u g (by show g ≠ b; omega)).trans h4, r⟩
theorem Win.lt (h : Win w base e size v n xs) : ∀ k, v.ownBlock = some k → base ≤ k ∧ k < w.heap.size := by
  obtain ⟨h1, g, o, cap, cur, rfl, h3, h4, r⟩ := h
  intro k hk
  obtain rfl : g = k := by simpa [Value.ownBlock] using hk
  exact ⟨h3, (Array.getElem?_eq_some_iff.1 h4).1⟩
theorem Win.cellAt (h : Win w base e size v n xs) : ∃ g o cap, v = .slice (some ⟨g, o, none⟩) n cap ∧ base ≤ g ∧ g < w.heap.size ∧ n ≤ cap ∧ cap ≤ maxLen ∧ ∀ j u, xs[j]? = some u → w.cell? ⟨g, o + j, none⟩ = some u := by
  obtain ⟨h1, g, o, cap, cur, rfl, h3, h4, h5, h6, h7, h8⟩ := h
  refine ⟨g, o, cap, rfl, h3, (Array.getElem?_eq_some_iff.1 h4).1, h5, h6, fun j u hu => ?_⟩
  rw [← h8, List.getElem?_take] at hu
  split at hu
  · rw [List.getElem?_drop] at hu
    simp only [World.cell?, h4]
    simpa using hu
  · cases hu
/-- The first element is cut off. -/
def cutV (g o n cap size : Nat) : Value := .slice (some (if cap = 1 then ⟨g, o, none⟩ else ⟨g, o + size, none⟩)) n (cap - 1)
theorem Win.cut {g o cap : Nat} {x ys : List Value} (h : Win w base e size (.slice (some ⟨g, o, none⟩) (n + 1) cap) (n + 1) (x ++ ys)) (hx : x.length = size) : Win w base e size (cutV g o n cap size) n ys := by
  obtain ⟨h1, g', o', cap', cur, hv, h3, h4, h5, h6, h7, h8⟩ := h
  obtain ⟨⟨rfl, rfl⟩, rfl⟩ : (g = g' ∧ o = o') ∧ cap = cap' := by simpa using hv
  have hl : ys.length = n * size := by rw [List.length_append, hx, Nat.add_mul] at h1; omega
  have hys : (cur.toList.drop (o + size)).take (n * size) = ys := by
    have h9 := congrArg (List.drop size) h8
    rw [List.drop_left' hx, List.drop_take, List.drop_drop] at h9
    rw [← h9, show (n + 1) * size - size = n * size by rw [Nat.add_mul]; omega]
  by_cases hc : cap = 1
  · subst hc
    obtain rfl : n = 0 := by omega
    obtain rfl : ys = [] := List.eq_nil_of_length_eq_zero (by omega)
    exact ⟨by simp, g, o, 0, cur, by simp [cutV], h3, h4, Nat.le_refl _, by unfold maxLen; omega, by omega, by simp⟩
  · have e1 : (cap - 1) * size + size = cap * size := by
      obtain ⟨c, rfl⟩ : ∃ c, cap = c + 1 := ⟨cap - 1, by omega⟩
      rw [Nat.add_sub_cancel, Nat.add_mul]; omega
    exact ⟨hl, g, o + size, cap - 1, cur, by simp [cutV, hc], h3, h4, by omega, by omega, by omega, hys⟩
end
theorem Win.made (w : World) (base : Nat) (e : TypeId) (cs : Array Value) (hb : base ≤ w.heap.size) : Win (w.alloc (.cells cs e)) base e cs.size (.slice (some ⟨w.heap.size, 0, none⟩) 1 1) 1 cs.toList :=
  ⟨by simp, w.heap.size, 0, 1, cs, rfl, hb, Whole.fresh w e cs, Nat.le_refl _, by unfold maxLen; omega, by simp, by rw [Nat.one_mul, List.drop_zero, List.take_of_length_le (by simp)]⟩

theorem add_at (g o j : Nat) : (⟨g, o, none⟩ : Addr).add j = ⟨g, o + j, none⟩ := by unfold Addr.add; split <;> simp_all
theorem add_at0 (g o : Nat) (spot : Option Nat) (h : spot = none) (j : Nat) : (⟨g, o, spot⟩ : Addr).add j = ⟨g, o + j, none⟩ := by subst h; exact add_at g o j

theorem run_append_win {P : Program} (w : World) (base : Nat) (t ty e : TypeId) (i : TypeInfo) (z : Value) (size bytes : Nat) (ht : P.underlying t = some (.slice e)) (hi : P.info? e = some i) (hz : i.zero = some z)
    (hsize : i.size = size) (hby : i.bytes = bytes) (hzs : z.cells.size = size) (v : Value) (n : Nat) (xs : List Value) (hown : Win w base e size v n xs)
    (a : Addr) (m c : Nat) (news : List Value) (hl : news.length = m * size) (hnews : ∀ j u, news[j]? = some u → w.cell? (a.add j) = some u) (h1 : ∀ u ∈ news, u.oneCell' = true)
    (h63 : n + m ≤ maxLen) (hbytes : (n + m) * bytes ≤ 140737488355328) (hbase : base ≤ w.heap.size) :
    ∃ v' w', (Builtin.append_ #[t, t] ty #[v, .slice (some a) m c]).run P w = .ok v' w' ∧ Win w' base e size v' (n + m) (xs ++ news) ∧ w.grownBy w' v.ownBlock ∧ (v'.ownBlock = v.ownBlock ∨ v'.ownBlock = some w.heap.size) := by
  subst hsize hby
  have hlt : n + m ≤ 9223372036854775807 := by simp only [maxLen] at h63; omega
  have hlen : (xs ++ news).length = (n + m) * i.size := by rw [List.length_append, hown.1, hl, Nat.add_mul]
  obtain ⟨g, o, cap, hv, hbg, hgl, -, -, hcell⟩ := hown.cellAt
  obtain ⟨hxl, g', o', cap', cur, hv', -, hg, hnc, hcm, hcs, htake⟩ := hown
  subst hv
  obtain ⟨⟨rfl, rfl⟩, rfl⟩ : (g = g' ∧ o = o') ∧ cap = cap' := by simpa using hv'
  by_cases hroom : n + m ≤ cap
  · have hm2 : (n + m) * i.size ≤ cap * i.size := Nat.mul_le_mul_right _ hroom
    rw [Nat.add_mul] at hm2
    have hfit : o + n * i.size + 0 + news.length ≤ cur.size := by rw [hl]; omega
    have hf := run_firstCells_some (P := P) w i.size m a m c news hl hnews
    have hst := run_storeCells_at P g (o + n * i.size) e news 0 cur w hg hfit h1
    rw [Nat.add_zero] at hst
    refine ⟨.slice (some ⟨g, o, none⟩) (n + m) cap, w.setRow g (cur.toList.take (o + n * i.size) ++ news ++ cur.toList.drop (o + n * i.size + news.length)).toArray, ?_, ⟨hlen, g, o, cap, _, rfl, hbg, setRow_heap w g cur _ e _ hg, hroom, hcm, ?_, ?_⟩, ⟨rfl, rfl, rfl, by simp, fun k _ hk => setRow_other w g k _ (fun e => hk (by simp [Value.ownBlock, e]))⟩, .inl rfl⟩
    · simp [Builtin.append_, run_underlying ht, sizeOf, typeInfo, hi, Builtin.lenOf, hroom, hf, add_at, hst]
    · simp only [List.size_toArray, List.length_append, List.length_take, List.length_drop, Array.length_toList]
      omega
    · have hcl : o + n * i.size ≤ cur.toList.length := by simp; omega
      have e1 : cur.toList.take (o + n * i.size) = cur.toList.take o ++ xs := by rw [List.take_add, htake]
      rw [e1, List.append_assoc, List.append_assoc, List.drop_append_of_le_length (by simp; omega), List.drop_of_length_le (by simp; omega), List.nil_append, ← List.append_assoc, ← hlen]
      exact List.take_left
  · have holds : ∀ j u, xs[j]? = some u → w.cell? ((⟨g, o, none⟩ : Addr).add j) = some u := fun j u hu => by rw [add_at]; exact hcell j u hu
    have hr := run_append_grow (P := P) w t ty e i z ht hi hz ⟨g, o, none⟩ n cap xs hxl holds a m c news hl hnews (by omega) (by omega) (growslice_fits (by omega) hbytes)
    have hge := grownCap_ge w (n + m) cap e
    have hcm2 : grownCap w (n + m) cap e ≤ maxLen := grownCap_le_maxLen w (n + m) cap e h63
    refine ⟨_, _, hr, ⟨hlen, w.heap.size, 0, _, _, rfl, hbase, heap_alloc_new w.drew _, hge, hcm2, ?_, ?_⟩, ⟨rfl, rfl, rfl, by simp, fun k hk _ => Below.heap_alloc w.drew _ k hk⟩, .inr rfl⟩
    · have e2 : (n + m) * i.size + (grownCap w (n + m) cap e - (n + m)) * i.size = grownCap w (n + m) cap e * i.size := by rw [← Nat.add_mul]; congr 1; omega
      simp only [Array.size_append, List.size_toArray, size_zeroCells, hzs, hxl, hl, Nat.zero_add]
      rw [Nat.add_mul] at e2
      omega
    · simp only [Array.toList_append, List.append_assoc, List.drop_zero]
      rw [← List.append_assoc, ← hlen]
      exact List.take_left

theorem wpList_append_win {P : Program} (w : World) {ops : Array Oper} {rest : List Oper} {o : Oper} {a : Act} {Q : Exit → Act → World → Prop} (hgd : o.guard = none) (s x : Operand) (t : TypeId)
    (ho : o.op = .call { callee := .builtin .append, args := #[s, x], argTypes := #[t, t] })
    (base : Nat) (e : TypeId) (i : TypeInfo) (z : Value) (size bytes : Nat) (ht : P.underlying t = some (.slice e)) (hi : P.info? e = some i) (hz : i.zero = some z)
    (hsize : i.size = size) (hby : i.bytes = bytes) (hzs : z.cells.size = size) (v : Value) (n : Nat) (xs : List Value) (hs : a.eval s = v) (hown : Win w base e size v n xs)
    (ad : Addr) (m c : Nat) (news : List Value) (hx : a.eval x = .slice (some ad) m c) (hl : news.length = m * size) (hnews : ∀ j u, news[j]? = some u → w.cell? (ad.add j) = some u) (h1 : ∀ u ∈ news, u.oneCell' = true)
    (h63 : n + m ≤ maxLen) (hbytes : (n + m) * bytes ≤ 140737488355328) (hbase : base ≤ w.heap.size)
    (h : ∀ v' w', Win w' base e size v' (n + m) (xs ++ news) → w.grownBy w' v.ownBlock → (v'.ownBlock = v.ownBlock ∨ v'.ownBlock = some w.heap.size) → wpList P ops Q rest (a.put o.dst v') w') : wpList P ops Q (o :: rest) a w := by
  refine wpList_plain hgd fun K hK => ?_
  obtain ⟨v', w', hr, h2, h3, h4⟩ := run_append_win (P := P) w base t o.type e i z size bytes ht hi hz hsize hby hzs v n xs hown ad m c news hl hnews h1 h63 hbytes hbase
  unfold Oper.wp execOp
  simp only [ho, resolve, invoke, builtin, Sem.run_bind, Sem.run_pure, Result.andThen_ok, List.map_toArray, List.map_cons, List.map_nil, hs, hx, hr]
  exact hK _ _ (h v' w' h2 h3 h4)
theorem run_cut {P : Program} (W : World) (t e : TypeId) (size : Nat) (g o n cap : Nat) (ht : P.underlying t = some (.slice e)) (he : P.elem t = e) (hs : (P.info? e).map (·.size) = some size) (hn : n + 1 ≤ cap) :
    (Instr.sliceAt t (.slice (some ⟨g, o, none⟩) (n + 1) cap) (some (.int .i64 1)) none none).run P W = .ok (cutV g o n cap size) W := by
  cases hq : P.info? e with
  | none => simp [hq] at hs
  | some i =>
    have hi : i.size = size := by simpa [hq] using hs
    subst he
    have h0 := run_slice_l (P := P) W t (some ⟨g, o, none⟩) (n + 1) cap ht .i64 1 (by omega) (by omega)
    rw [run_sliceAt_slice W t _ _ _ _ ht, h0]
    by_cases hc : cap = 1
    · subst hc
      simp [sizeOf, typeInfo, hq, hi, cutV, sliced, Result.andThen]
    · have hc2 : ¬ (1 = cap) := fun h => hc h.symm
      simp [sizeOf, typeInfo, hq, hi, cutV, sliced, Result.andThen, hc, hc2, add_at]
end Go.Proofs.Ytlpeimlbpiofkaa
