/-
  What is proved: maps of numbers whose keys come out of a finite list, told by what they hold at each key: made, looked up, stored into, deleted from, counted, ranged over. Conditions: as each says.
  What is proved: maps of numbers told by what they hold at each key: a look-up as an equation, a store and a literal's entry as laws of one operation. Conditions: as each says.
  What is proved: two places compared by ==. Conditions: none.
  What is proved: a contract of the model's RowBoat. Conditions: the arguments are read as they lie.
  What is proved: plain facts on lists of lists that a call hands back. Conditions: none.
  What is proved: a contract of the model's RowsOf. Conditions: the arguments are read as they lie.
  What is proved: a contract of the program's RowsOf. Conditions: the arguments are read as they lie.
  What is proved: laws of a slice of the call's own that may begin anywhere in its row (a queue that is cut at its head): what is appended to it, how its head is cut off. Conditions: as each says.
-/
import Derived.Maps.RangeWalk
import Derived.Maps.Ext
import Derived.Deep.DeepCutAuto
import Derived.Deep.AppendLies
import Derived.Test.YtjadoehdhbilcaaJ5FirstRows
set_option linter.unusedSimpArgs false
set_option linter.unusedVariables false
namespace Go.Proofs.Ytjadoehdhbilcaa
open Go.RowKit Go.Maps Go.WideShapes

/-- Keys of type k: each a of the list dom stands as the value val a and reads as lit a. -/
structure KeyT (P : Program) (k : TypeId) {α : Type} (val : α → Value) (lit : α → Lit) (dom : List α) : Prop where
  law : Keyed P k
  reads : ∀ a ∈ dom, keyOf P k (val a) = some (lit a)
  inj : ∀ a ∈ dom, ∀ b ∈ dom, lit a = lit b → a = b

/-- What is read holds just what M says. -/
structure ReadsAs {H α : Type} (lit : α → Lit) (dom : List α) (D : DataW H) (M : α → Option Int) : Prop where
  keys : ∀ kl, Go.Maps.has D kl = true → ∃ a, a ∈ dom ∧ kl = lit a
  out : ∀ a, M a ≠ none → a ∈ dom
  there : ∀ a, a ∈ dom → Go.Maps.has D (lit a) = (M a).isSome
  at_ : ∀ a c, M a = some c → ∀ z, D.atKey (lit a) z = .lit (.int .i64 c)

theorem nodup_le {β : Type} : ∀ (l m : List β), l.Nodup → (∀ x ∈ l, x ∈ m) → l.length ≤ m.length := by
  intro l
  induction l with
  | nil => intro m _ _; simp
  | cons x l ih =>
    intro m hn hs
    obtain ⟨h1, h2⟩ := List.nodup_cons.1 hn
    obtain ⟨s, t, rfl⟩ := List.append_of_mem (hs x (by simp))
    have := ih (s ++ t) h2 fun y hy => by
      have hy2 := hs y (by simp [hy])
      have hne : y ≠ x := fun e => h1 (e ▸ hy)
      simp only [List.mem_append, List.mem_cons] at hy2 ⊢
      rcases hy2 with h | h | h
      · exact .inl h
      · exact absurd h hne
      · exact .inr h
    simp only [List.length_cons, List.length_append] at this ⊢
    omega

section
variable {H α : Type} {P : Program} {k e : TypeId} {val : α → Value} {lit : α → Lit} {dom : List α} {D : DataW H} {M : α → Option Int}

theorem ReadsAs.size_le {n b : Nat} {w : World} {R : Value → Option (DataW H × List MemPlace)} (h : ReadsAs lit dom D M) (K : Keyed P k) (ho : w.ownsMap P k R b n D) : Maps.size D ≤ dom.length := by
  obtain ⟨es, rfl, hp, hk⟩ := ho.entries K
  have h1 : (es.map (·.1)).length ≤ (dom.map lit).length := by
    refine nodup_le _ _ ?_ ?_
    · rw [List.Nodup, List.pairwise_map]
      exact hp
    · intro x hx
      obtain ⟨p, hp, rfl⟩ := List.mem_map.1 hx
      obtain ⟨a, ha, hl⟩ := h.keys p.1 (List.any_eq_true.2 ⟨p, hp, WideAt.sameKey_self (hk p hp)⟩)
      exact List.mem_map.2 ⟨a, ha, hl.symm⟩
  simpa [Maps.size] using h1

theorem owns_tight {n b : Nat} {w : World} {R : Value → Option (DataW H × List MemPlace)} (ho : w.ownsMap P k R b n D) : w.ownsMap P k R b (Maps.size D) D := by
  obtain ⟨es, clock, hb, F, hs, rfl⟩ := ho
  exact ⟨es, clock, hb, F, by simp [Maps.size, length_sorted], rfl⟩

/-- M with c at a. -/
noncomputable def upd (M : α → Option Int) (a : α) (c : Int) : α → Option Int := fun x => open Classical in if x = a then some c else M x
/-- M without a. -/
noncomputable def del (M : α → Option Int) (a : α) : α → Option Int := fun x => open Classical in if x = a then none else M x
theorem upd_same (M : α → Option Int) (a : α) (c : Int) : upd M a c a = some c := by simp [upd]
theorem upd_other (M : α → Option Int) {a x : α} (c : Int) (h : x ≠ a) : upd M a c x = M x := by simp [upd, h]
theorem del_same (M : α → Option Int) (a : α) : del M a a = none := by simp [del]
theorem del_other (M : α → Option Int) {a x : α} (h : x ≠ a) : del M a x = M x := by simp [del, h]

theorem ReadsAs.empty : ReadsAs lit dom (.map [] : DataW H) (fun _ => none) :=
  ⟨fun kl h => (by cases h), fun a h => absurd rfl h, fun a _ => rfl, fun a c h => (by cases h)⟩

theorem ReadsAs.put (h : ReadsAs lit dom D M) (K : KeyT P k val lit dom) (hD : IsMap D) {a : α} (ha : a ∈ dom) (c : Int) : ReadsAs lit dom (D.put (lit a) (.lit (.int .i64 c))) (upd M a c) := by
  have hk := K.law.key (K.reads a ha)
  refine ⟨fun kl hkl => ?_, fun x hx => ?_, fun x hx => ?_, fun x c' hx z => ?_⟩
  · by_cases e : kl = lit a
    · exact ⟨a, ha, e⟩
    · rw [has_put_other e] at hkl
      exact h.keys kl hkl
  · by_cases e : x = a
    · subst e; exact ha
    · rw [upd_other M c e] at hx
      exact h.out x hx
  · by_cases e : x = a
    · subst e
      rw [has_put_same hD hk, upd_same]
      rfl
    · rw [has_put_other (fun e2 => e (K.inj x hx a ha e2)), upd_other M c e, h.there x hx]
  · by_cases e : x = a
    · subst e
      rw [upd_same] at hx
      rw [atKey_put_same hD hk, Option.some.inj hx]
    · rw [upd_other M c e] at hx
      rw [atKey_put_other (fun e2 => e (K.inj x (h.out x (by rw [hx]; simp)) a ha e2)), h.at_ x c' hx z]

theorem ReadsAs.drop (h : ReadsAs lit dom D M) (K : KeyT P k val lit dom) {a : α} (ha : a ∈ dom) : ReadsAs lit dom (D.del (lit a)) (del M a) := by
  refine ⟨fun kl hkl => ?_, fun x hx => ?_, fun x hx => ?_, fun x c' hx z => ?_⟩
  · by_cases e : kl = lit a
    · exact ⟨a, ha, e⟩
    · rw [has_del_other e] at hkl
      exact h.keys kl hkl
  · by_cases e : x = a
    · subst e; exact ha
    · rw [del_other M e] at hx
      exact h.out x hx
  · by_cases e : x = a
    · subst e
      rw [has_del_same, del_same]
      rfl
    · rw [has_del_other (fun e2 => e (K.inj x hx a ha e2)), del_other M e, h.there x hx]
  · by_cases e : x = a
    · subst e
      rw [del_same] at hx
      cases hx
    · rw [del_other M e] at hx
      rw [atKey_del_other (fun e2 => e (K.inj x (h.out x (by rw [hx]; simp)) a ha e2)), h.at_ x c' hx z]
end

/-- Block b of the world is a map of numbers that holds just what M says. -/
def MapIs (P : Program) (k e : TypeId) {α : Type} (lit : α → Lit) (dom : List α) (w : World) (b : Nat) (M : α → Option Int) : Prop :=
  ∃ D : DataW Unit, w.ownsMap P k (plainElem P e) b dom.length D ∧ ReadsAs lit dom D M

/-- A loop over it: left tells which keys are still to come. -/
def RangeIs (P : Program) (k e : TypeId) {α : Type} (lit : α → Lit) (dom : List α) (w : World) (b r : Nat) (M : α → Option Int) (left : α → Bool) : Prop :=
  ∃ (D : DataW Unit) (left0 : Lit → Bool) (cnt : Nat), w.ranges P k (plainElem P e) b r dom.length D left0 cnt ∧ ReadsAs lit dom D M ∧ (∀ a, a ∈ dom → left0 (lit a) = left a) ∧ (∀ kl, left0 kl = true → Go.Maps.has D kl = true) ∧ (∀ a, left a = true → a ∈ dom)

section
variable {α : Type} {P : Program} {k e : TypeId} {val : α → Value} {lit : α → Lit} {dom : List α} {M : α → Option Int} {w : World} {b r : Nat} {left : α → Bool}

theorem MapIs.lt (h : MapIs P k e lit dom w b M) : b < w.heap.size := by obtain ⟨D, ho, -⟩ := h; exact ho.lt
theorem MapIs.kept {w' : World} {row : Option Nat} (h : MapIs P k e lit dom w b M) (hg : w.grownBy w' row) (hne : some b ≠ row) : MapIs P k e lit dom w' b M := by
  obtain ⟨D, ho, hr⟩ := h; exact ⟨D, ho.kept hg hne, hr⟩
theorem MapIs.alloc (h : MapIs P k e lit dom w b M) (o : Obj) : MapIs P k e lit dom (w.alloc o) b M := by
  obtain ⟨D, ho, hr⟩ := h; exact ⟨D, ho.alloc o, hr⟩
theorem MapIs.below {w' : World} (h : MapIs P k e lit dom w b M) (hb : Below w.heap.size w w') : MapIs P k e lit dom w' b M := by
  have hl := h.lt
  obtain ⟨D, ⟨es, clock, hh, r⟩, hr⟩ := h
  exact ⟨D, ⟨es, clock, (hb.block b hl).trans hh, r⟩, hr⟩
theorem MapIs.out (h : MapIs P k e lit dom w b M) {a : α} (ha : M a ≠ none) : a ∈ dom := by obtain ⟨D, -, hr⟩ := h; exact hr.out a ha
theorem MapIs.made (w : World) (P : Program) (k e : TypeId) (lit : α → Lit) (dom : List α) : MapIs P k e lit dom (w.alloc (.map #[] 0)) w.heap.size (fun _ => none) :=
  ⟨.map [], (World.ownsMap_made w P k _).mono (Nat.zero_le _), ReadsAs.empty⟩
theorem MapIs.same {M' : α → Option Int} (h : MapIs P k e lit dom w b M) (hM : M = M') : MapIs P k e lit dom w b M' := hM ▸ h

theorem RangeIs.lt (h : RangeIs P k e lit dom w b r M left) : r < w.heap.size := by obtain ⟨D, l, c, ho, -⟩ := h; exact ho.lt
theorem RangeIs.ne (h : RangeIs P k e lit dom w b r M left) : r ≠ b := by obtain ⟨D, l, c, ho, -⟩ := h; exact ho.ne
theorem RangeIs.map (h : RangeIs P k e lit dom w b r M left) : MapIs P k e lit dom w b M := by obtain ⟨D, l, c, ho, hr, -⟩ := h; exact ⟨D, ho.owns, hr⟩
theorem RangeIs.kept {w' : World} {row : Option Nat} (h : RangeIs P k e lit dom w b r M left) (hg : w.grownBy w' row) (h1 : some b ≠ row) (h2 : some r ≠ row) : RangeIs P k e lit dom w' b r M left := by
  obtain ⟨D, l, c, ho, hr⟩ := h; exact ⟨D, l, c, ho.kept hg h1 h2, hr⟩
theorem RangeIs.below {w' : World} (h : RangeIs P k e lit dom w b r M left) (hb : Below w.heap.size w w') : RangeIs P k e lit dom w' b r M left :=
  h.kept (row := none) ⟨hb.os, hb.tape, hb.output, hb.size, fun i hi _ => hb.block i hi⟩ (by simp) (by simp)
theorem RangeIs.left_kept {w' : World} {row : Option Nat} (h : RangeIs P k e lit dom w b r M left) (hg : w.grownBy w' row) (h1 : some b ≠ row) (h2 : some r ≠ row) : w'.rangeLeft b r = w.rangeLeft b r := by
  obtain ⟨D, l, c, ho, hr⟩ := h; rw [ho.left_eq, (ho.kept hg h1 h2).left_eq]
theorem RangeIs.left_below {w' : World} (h : RangeIs P k e lit dom w b r M left) (hb : Below w.heap.size w w') : w'.rangeLeft b r = w.rangeLeft b r :=
  h.left_kept (row := none) ⟨hb.os, hb.tape, hb.output, hb.size, fun i hi _ => hb.block i hi⟩ (by simp) (by simp)
end

section
variable {α : Type} {P : Program} {k e t : TypeId} {val : α → Value} {lit : α → Lit} {dom : List α} {M : α → Option Int} (w : World) {b r : Nat} {left : α → Bool}
  {ops : Array Oper} {rest : List Oper} {o : Oper} {a : Act} {Q : Exit → Act → World → Prop}

theorem opt_cases {x : Option Int} {c : Int} {D : DataW Unit} {kl : Lit} (h1 : x = none → Go.Maps.has D kl = false) (h2 : ∀ c, x = some c → ∀ z, D.atKey kl z = .lit (.int .i64 c)) (hat : D.atKey kl (.lit (.int .i64 0)) = .lit (.int .i64 c)) : x.getD 0 = c := by
  cases x with
  | none =>
    rw [atKey_of_not_has (h1 rfl)] at hat
    simp at hat
    exact hat
  | some c' =>
    rw [h2 c' rfl] at hat
    simp at hat
    exact hat

/-- 'm[k]'. -/
theorem wpList_map_look (hg : o.guard = none) (m x : Operand) (hop : o.op = Op.lookup t m x false) (K : KeyT P k val lit dom) (ht : P.underlying t = some (.map k e)) (he : P.underlying e = some (.int .i64)) (hz : (zeroValue e).run P w = .ok (.int .i64 0) w)
    (hm : a.eval m = .map (some b)) (hown : MapIs P k e lit dom w b M) (key : α) (hkd : key ∈ dom) (hx : a.eval x = val key)
    (hK : wpList P ops Q rest (a.put o.dst (.int .i64 ((M key).getD 0))) w) : wpList P ops Q (o :: rest) a w := by
  obtain ⟨D, ho, hr⟩ := hown
  refine wpList_lookup_own_int w hg m x t hop k e .i64 K.law ht he hz b dom.length D hm ho (val key) (lit key) hx (K.reads key hkd) fun c hat _ => ?_
  rw [opt_cases (fun h => by rw [hr.there key hkd, h]; rfl) (fun c h => hr.at_ key c h) hat] at hK
  exact hK

/-- 'v, ok := m[k]'. -/
theorem wpList_map_look_ok (hg : o.guard = none) (m x : Operand) (hop : o.op = Op.lookup t m x true) (K : KeyT P k val lit dom) (ht : P.underlying t = some (.map k e)) (he : P.underlying e = some (.int .i64)) (hz : (zeroValue e).run P w = .ok (.int .i64 0) w)
    (hm : a.eval m = .map (some b)) (hown : MapIs P k e lit dom w b M) (key : α) (hkd : key ∈ dom) (hx : a.eval x = val key)
    (hK : wpList P ops Q rest (a.put o.dst (.tuple #[.int .i64 ((M key).getD 0), .bool (M key).isSome])) w) : wpList P ops Q (o :: rest) a w := by
  obtain ⟨D, ho, hr⟩ := hown
  refine wpList_lookup_own_ok_int w hg m x t hop k e .i64 K.law ht he hz b dom.length D hm ho (val key) (lit key) hx (K.reads key hkd) fun c hat _ => ?_
  rw [opt_cases (fun h => by rw [hr.there key hkd, h]; rfl) (fun c h => hr.at_ key c h) hat, ← hr.there key hkd] at hK
  exact hK

/-- 'm[k] = v'. -/
theorem wpList_map_put (hg : o.guard = none) (m x v : Operand) (hop : o.op = Op.mapUpdate t m x v) (K : KeyT P k val lit dom) (ht : P.underlying t = some (.map k e)) (he : P.underlying e = some (.int .i64)) (hdom : dom.length < maxLen)
    (hm : a.eval m = .map (some b)) (hown : MapIs P k e lit dom w b M) (key : α) (hkd : key ∈ dom) (hx : a.eval x = val key) (c : Int) (hc : (Lit.int .i64 c).wf = true) (hv : a.eval v = .int .i64 c)
    (hK : ∀ w', MapIs P k e lit dom w' b (upd M key c) → w.grownBy w' (some b) → wpList P ops Q rest (a.put o.dst undef) w') : wpList P ops Q (o :: rest) a w := by
  obtain ⟨D, ho, hr⟩ := hown
  refine wpList_mapUpdate_own w hg m x v t hop k e K.law ht _ b dom.length D hm ho hdom (val key) (.int .i64 c) (lit key) hx hv (K.reads key hkd) (.lit (.int .i64 c)) [] (plainElem_int he hc) fun w' ho' hg' => hK w' ?_ hg'
  have hr' := hr.put K ho.isMap hkd c
  exact ⟨_, (owns_tight ho').mono (hr'.size_le K.law ho'), hr'⟩

/-- 'delete(m, k)'. -/
theorem wpList_map_delete (hg : o.guard = none) (m x : Operand) (hop : o.op = Op.call { callee := Callee.builtin Builtin.delete, args := #[m, x], argTypes := #[t, k] }) (K : KeyT P k val lit dom) (ht : P.underlying t = some (.map k e))
    (hm : a.eval m = .map (some b)) (hown : MapIs P k e lit dom w b M) (key : α) (hkd : key ∈ dom) (hx : a.eval x = val key)
    (hK : ∀ w', MapIs P k e lit dom w' b (del M key) → w.grownBy w' (some b) → wpList P ops Q rest (a.put o.dst (.tuple #[])) w') : wpList P ops Q (o :: rest) a w := by
  obtain ⟨D, ho, hr⟩ := hown
  exact wpList_delete_own w hg m x t k hop e K.law ht _ b dom.length D hm ho (val key) (lit key) hx (K.reads key hkd) fun w' ho' ht' => hK w' ⟨_, ho', hr.drop K hkd⟩ ht'.grown

/-- How many keys are there. -/
noncomputable def countIs (dom : List α) (M : α → Option Int) : Nat := (dom.filter fun a => (M a).isSome).length

theorem MapIs.count {b : Nat} {w : World} (K : KeyT P k val lit dom) (hd : dom.Nodup) {D : DataW Unit} (ho : w.ownsMap P k (plainElem P e) b dom.length D) (hr : ReadsAs lit dom D M) : Maps.size D = countIs dom M := by
  obtain ⟨es, rfl, hp, hk⟩ := ho.entries K.law
  have hkeys : ∀ x, x ∈ es.map (·.1) ↔ x ∈ (dom.filter fun a => (M a).isSome).map lit := by
    intro x
    constructor
    · intro hx
      obtain ⟨p, hp, rfl⟩ := List.mem_map.1 hx
      have hh : Go.Maps.has (.map es) p.1 = true := List.any_eq_true.2 ⟨p, hp, WideAt.sameKey_self (hk p hp)⟩
      obtain ⟨a, ha, hl⟩ := hr.keys p.1 hh
      refine List.mem_map.2 ⟨a, List.mem_filter.2 ⟨ha, ?_⟩, hl.symm⟩
      show (M a).isSome = true
      rw [← hr.there a ha, ← hl]
      exact hh
    · intro hx
      obtain ⟨a, ha, rfl⟩ := List.mem_map.1 hx
      obtain ⟨ha, hs⟩ := List.mem_filter.1 ha
      rw [← hr.there a ha] at hs
      obtain ⟨p, hp, hpk⟩ := List.any_eq_true.1 hs
      exact List.mem_map.2 ⟨p, hp, WideAt.sameKey_eq hpk⟩
  have n1 : (es.map (·.1)).Nodup := by
    rw [List.Nodup, List.pairwise_map]
    exact hp
  have n2 : ((dom.filter fun a => (M a).isSome).map lit).Nodup := by
    rw [List.Nodup, List.pairwise_map]
    refine List.Pairwise.imp_of_mem ?_ (hd.filter _)
    intro a b ha hb hne e
    exact hne (K.inj a (List.mem_filter.1 ha).1 b (List.mem_filter.1 hb).1 e)
  have h1 := nodup_le _ _ n1 fun x hx => (hkeys x).1 hx
  have h2 := nodup_le _ _ n2 fun x hx => (hkeys x).2 hx
  simp only [List.length_map] at h1 h2
  show es.length = _
  unfold countIs
  omega

/-- 'len(m)'. -/
theorem wpList_map_len (hg : o.guard = none) (m : Operand) (hop : o.op = Op.call { callee := Callee.builtin Builtin.len, args := #[m], argTypes := #[t] }) (K : KeyT P k val lit dom) (hd : dom.Nodup) (ht : P.underlying t = some (.map k e))
    (hm : a.eval m = .map (some b)) (hown : MapIs P k e lit dom w b M)
    (hK : wpList P ops Q rest (a.put o.dst (.int .i64 (countIs dom M : Nat))) w) : wpList P ops Q (o :: rest) a w := by
  obtain ⟨D, ho, hr⟩ := hown
  refine wpList_len_own w hg m t hop k e ht _ b dom.length D hm ho ?_
  rw [MapIs.count K hd ho hr]
  exact hK

/-- 'range m'. -/
theorem wpList_map_range (hg : o.guard = none) (m : Operand) (hop : o.op = Op.range t m) (K : KeyT P k val lit dom) (ht : P.underlying t = some (.map k e)) (hm : a.eval m = .map (some b)) (hown : MapIs P k e lit dom w b M)
    (hK : ∀ w', RangeIs P k e lit dom w' b w.heap.size M (fun x => (M x).isSome) → w.grownBy w' none → w'.heap.size = w.heap.size + 1 → wpList P ops Q rest (a.put o.dst (.pointer (some ⟨w.heap.size, 0, none⟩))) w') : wpList P ops Q (o :: rest) a w := by
  obtain ⟨D, ho, hr⟩ := hown
  refine wpList_range_own w hg m t hop k e K.law ht _ b dom.length D hm ho fun w' hrg hg' hs => hK w' ⟨D, _, _, hrg, hr, fun a ha => hr.there a ha, fun kl h => h, fun a ha => hr.out a (fun h => by simp [h] at ha)⟩ hg' hs

/-- The step of such a loop. -/
theorem wpList_map_next (hg : o.guard = none) (it : Operand) (hop : o.op = Op.next it false) (K : KeyT P k val lit dom) (he : P.underlying e = some (.int .i64)) (hit : a.eval it = .pointer (some ⟨r, 0, none⟩)) (h : RangeIs P k e lit dom w b r M left)
    (hDone : (∀ x, left x = false) → wpList P ops Q rest (a.put o.dst (.tuple #[.bool false])) w)
    (hMore : ∀ (x : α) (c : Int) (w' : World), x ∈ dom → left x = true → M x = some c → (Lit.int .i64 c).wf = true → RangeIs P k e lit dom w' b r M (fun z => open Classical in if z = x then false else left z) → w'.rangeLeft b r < w.rangeLeft b r → w.grownBy w' (some r) → w'.heap.size = w.heap.size →
      (Instr.entry (.pointer (some ⟨r, 0, none⟩))).run P w' = .ok (.tuple #[val x, .int .i64 c]) w' → wpList P ops Q rest (a.put o.dst (.tuple #[.bool true, val x, .int .i64 c])) w') :
    wpList P ops Q (o :: rest) a w := by
  obtain ⟨D, left0, cnt, hrg, hr, hl, hh, hld⟩ := h
  refine wpList_plain hg fun K' hK' => ?_
  unfold Oper.wp
  rcases hrg.next K.law o.type with ⟨h0, hl0, hrun⟩ | ⟨key, v, kl, y, w', cnt', hkey, hlk, hv, hat, hrun, hrg', hlt, hgr, hsz, hen⟩
  · simp [execOp, hop, hit, hrun, Result.andThen]
    refine hK' _ _ (hDone fun x => ?_)
    cases hx : left x
    · rfl
    · rw [← hl x (hld x hx), hl0] at hx
      cases hx
  · obtain ⟨x, hxd, rfl⟩ := hr.keys kl (hh kl hlk)
    obtain rfl : key = val x := K.law.inj hkey (K.reads x hxd)
    obtain ⟨c, rfl, rfl, hwc⟩ := plainElem_int_inv he hv
    have hMx : M x = some c := by
      cases hM : M x with
      | none =>
        have := hr.there x hxd
        rw [hM, hh _ hlk] at this
        cases this
      | some c' =>
        have h1 := hr.at_ x c' hM (.lit (.int .i64 0))
        rw [hat] at h1
        simp at h1
        rw [h1]
    simp [execOp, hop, hit, hrun, Result.andThen]
    refine hK' _ _ (hMore x c w' hxd ((hl x hxd).symm.trans hlk) hMx hwc ⟨D, _, cnt', hrg', hr, fun z hz => ?_, fun kl' h' => hh kl' ?_, fun z hz => ?_⟩ ?_ hgr hsz hen)
    · by_cases ez : z = x
      · subst ez
        simp [WideAt.sameKey_self (K.law.key (K.reads z hz))]
      · simp [ez, hl z hz, sameKey_ne (fun e2 => ez (K.inj z hz x hxd e2))]
    · simp at h'
      exact h'.1
    · by_cases ez : z = x
      · subst ez; exact hxd
      · simp [ez] at hz
        exact hld z hz
    · rw [hrg'.left_eq, hrg.left_eq]
      exact hlt
end
end Go.Proofs.Ytjadoehdhbilcaa

namespace Go.Proofs.Ytjadoehdhbilcaa
open Go.RowKit Go.Maps Go.WideShapes

section
variable {α : Type} {P : Program} {k e t : TypeId} {val : α → Value} {lit : α → Lit} {dom : List α} {M : α → Option Int} (w : World) {b : Nat}

theorem MapIs.look {w : World} (h : MapIs P k e lit dom w b M) (K : KeyT P k val lit dom) (ht : P.underlying t = some (.map k e)) (he : P.underlying e = some (.int .i64)) (hz : (zeroValue e).run P w = .ok (.int .i64 0) w) (key : α) (hkd : key ∈ dom) :
    (Instr.lookup t (.map (some b)) (val key) false).run P w = .ok (.int .i64 ((M key).getD 0)) w := by
  obtain ⟨D, ho, hr⟩ := h
  obtain ⟨c, hrun, hat, -⟩ := ho.lookup_int K.law ht he hz (K.reads key hkd)
  rw [hrun, opt_cases (fun h => by rw [hr.there key hkd, h]; rfl) (fun c h => hr.at_ key c h) hat]
theorem MapIs.look_ok {w : World} (h : MapIs P k e lit dom w b M) (K : KeyT P k val lit dom) (ht : P.underlying t = some (.map k e)) (he : P.underlying e = some (.int .i64)) (hz : (zeroValue e).run P w = .ok (.int .i64 0) w) (key : α) (hkd : key ∈ dom) :
    (Instr.lookup t (.map (some b)) (val key) true).run P w = .ok (.tuple #[.int .i64 ((M key).getD 0), .bool (M key).isSome]) w := by
  obtain ⟨D, ho, hr⟩ := h
  obtain ⟨v, ps, hrun, hv⟩ := ho.look_ok K.law ht hz (plainElem_int he (by decide)) (K.reads key hkd)
  obtain ⟨c, rfl, hc, -⟩ := plainElem_int_inv he hv
  simp only [Prod.mk.injEq] at hc
  rw [hrun, opt_cases (fun h => by rw [hr.there key hkd, h]; rfl) (fun c h => hr.at_ key c h) hc.1, ← hr.there key hkd]
theorem MapIs.update {w : World} (h : MapIs P k e lit dom w b M) (K : KeyT P k val lit dom) (ht : P.underlying t = some (.map k e)) (he : P.underlying e = some (.int .i64)) (hdom : dom.length < maxLen) (key : α) (hkd : key ∈ dom) (c : Int) (hc : (Lit.int .i64 c).wf = true) :
    ∃ w', (Instr.mapUpdate t (.map (some b)) (val key) (.int .i64 c)).run P w = .ok () w' ∧ MapIs P k e lit dom w' b (upd M key c) ∧ w.grownBy w' (some b) := by
  obtain ⟨D, ho, hr⟩ := h
  obtain ⟨w', hrun, r1, r2⟩ := ho.update K.law ht hdom (K.reads key hkd) (plainElem_int he hc)
  have hr' := hr.put K ho.isMap hkd c
  exact ⟨w', hrun, ⟨_, (owns_tight r1).mono (hr'.size_le K.law r1), hr'⟩, r2⟩
/-- 'm[k] = v', as one operation. -/
theorem wp_map_put {o : Oper} {a : Act} {K' : Act → World → Prop} {Q : Exit → Act → World → Prop} (m x v : Operand) (hop : o.op = Op.mapUpdate t m x v) (K : KeyT P k val lit dom) (ht : P.underlying t = some (.map k e)) (he : P.underlying e = some (.int .i64)) (hdom : dom.length < maxLen)
    (hm : a.eval m = .map (some b)) (hown : MapIs P k e lit dom w b M) (key : α) (hkd : key ∈ dom) (hx : a.eval x = val key) (c : Int) (hc : (Lit.int .i64 c).wf = true) (hv : a.eval v = .int .i64 c)
    (hK : ∀ w', MapIs P k e lit dom w' b (upd M key c) → w.grownBy w' (some b) → K' (a.put o.dst undef) w') : o.wp P a w K' Q := by
  obtain ⟨w', hrun, r1, r2⟩ := hown.update K ht he hdom key hkd c hc
  unfold Oper.wp
  simp [execOp, hop, hm, hx, hv, hrun, Result.andThen]
  exact hK w' r1 r2
/-- 'v, ok := m[k]' where it is not there, and where it is. -/
theorem wpList_map_none {ops : Array Oper} {rest : List Oper} {o : Oper} {a : Act} {Q : Exit → Act → World → Prop} (hg : o.guard = none) (m x : Operand) (hop : o.op = Op.lookup t m x true) (K : KeyT P k val lit dom) (ht : P.underlying t = some (.map k e)) (he : P.underlying e = some (.int .i64)) (hz : (zeroValue e).run P w = .ok (.int .i64 0) w)
    (hm : a.eval m = .map (some b)) (hown : MapIs P k e lit dom w b M) (key : α) (hkd : key ∈ dom) (hx : a.eval x = val key) (hM : M key = none)
    (hK : wpList P ops Q rest (a.put o.dst (.tuple #[.int .i64 0, .bool false])) w) : wpList P ops Q (o :: rest) a w :=
  wpList_map_look_ok w hg m x hop K ht he hz hm hown key hkd hx (by rw [hM]; exact hK)
theorem wpList_map_some {ops : Array Oper} {rest : List Oper} {o : Oper} {a : Act} {Q : Exit → Act → World → Prop} (hg : o.guard = none) (m x : Operand) (hop : o.op = Op.lookup t m x true) (K : KeyT P k val lit dom) (ht : P.underlying t = some (.map k e)) (he : P.underlying e = some (.int .i64)) (hz : (zeroValue e).run P w = .ok (.int .i64 0) w)
    (hm : a.eval m = .map (some b)) (hown : MapIs P k e lit dom w b M) (key : α) (hkd : key ∈ dom) (hx : a.eval x = val key) {c : Int} (hM : M key = some c)
    (hK : wpList P ops Q rest (a.put o.dst (.tuple #[.int .i64 c, .bool true])) w) : wpList P ops Q (o :: rest) a w :=
  wpList_map_look_ok w hg m x hop K ht he hz hm hown key hkd hx (by rw [hM]; exact hK)
/-- An entry of a map's literal. -/
theorem wpList_map_entry {ops : Array Oper} {rest : List Oper} {o : Oper} {a : Act} {Q : Exit → Act → World → Prop} (hg : o.guard = none) (m x v : Operand) (hop : o.op = Op.insert t m x v) (K : KeyT P k val lit dom) (ht : P.underlying t = some (.map k e)) (he : P.underlying e = some (.int .i64)) (hdom : dom.length < maxLen)
    (hm : a.eval m = .map (some b)) (hown : MapIs P k e lit dom w b M) (key : α) (hkd : key ∈ dom) (hx : a.eval x = val key) (c : Int) (hc : (Lit.int .i64 c).wf = true) (hv : a.eval v = .int .i64 c)
    (hK : ∀ w', MapIs P k e lit dom w' b (upd M key c) → w.grownBy w' (some b) → wpList P ops Q rest (a.put o.dst undef) w') : wpList P ops Q (o :: rest) a w := by
  refine wpList_plain hg fun K2 hK2 => ?_
  obtain ⟨w', hrun, r1, r2⟩ := hown.update K ht he hdom key hkd c hc
  unfold Oper.wp
  simp [execOp, hop, hm, hx, hv, hrun, Result.andThen]
  exact hK2 _ _ (hK w' r1 r2)
end

/-- The number that a list of entries holds at a key: the newest one. -/
def lk (m : List (Nat × Int)) (y : Nat) : Option Int := m.lookup y
theorem lk_put (m : List (Nat × Int)) (y : Nat) (v : Int) : upd (lk m) y v = lk ((y, v) :: m) := by
  funext z
  by_cases h : z = y
  · subst h; rw [upd_same]; simp [lk]
  · rw [upd_other _ _ h]
    have hb : (z == y) = false := by simp [h]
    simp [lk, List.lookup, hb]
theorem lk_mem {m : List (Nat × Int)} {y : Nat} {v : Int} (h : lk m y = some v) : (y, v) ∈ m := by
  induction m with
  | nil => simp [lk] at h
  | cons p m ih =>
    obtain ⟨a, b⟩ := p
    by_cases e : y = a
    · subst e
      have : b = v := by simpa [lk] using h
      simp [this]
    · have hb : (y == a) = false := by simp [e]
      have h' : lk m y = some v := by simpa [lk, List.lookup, hb] using h
      exact List.mem_cons_of_mem _ (ih h')
end Go.Proofs.Ytjadoehdhbilcaa

namespace Go.Proofs.Ytjadoehdhbilcaa
open Go.RowKit

/-- Two places compared. -/
def sameEight (v0 v1 v2 v3 v4 v5 v6 v7 u0 u1 u2 u3 u4 u5 u6 u7 : Bool) : Bool := v0 == u0 && v1 == u1 && v2 == u2 && v3 == u3 && v4 == u4 && v5 == u5 && v6 == u6 && v7 == u7
def samePlace (v0 v1 v2 v3 v4 v5 v6 v7 v8 u0 u1 u2 u3 u4 u5 u6 u7 u8 : Bool) : Bool := sameEight v0 v1 v2 v3 v4 v5 v6 v7 u0 u1 u2 u3 u4 u5 u6 u7 && v8 == u8
set_option maxHeartbeats 1600000 in
theorem eight_eq (v0 v1 v2 v3 v4 v5 v6 v7 u0 u1 u2 u3 u4 u5 u6 u7 : Bool) (w : World) : (Op.equalIn 9998 64 (.agg #[.bool v0, .bool v1, .bool v2, .bool v3, .bool v4, .bool v5, .bool v6, .bool v7]) (.agg #[.bool u0, .bool u1, .bool u2, .bool u3, .bool u4, .bool u5, .bool u6, .bool u7])).run Try.prog w = .ok (sameEight v0 v1 v2 v3 v4 v5 v6 v7 u0 u1 u2 u3 u4 u5 u6 u7) w := by
  unfold sameEight
  have uB := Try.underlying4
  have aB := Try.isAgg4
  have zB := Try.sizeOf4
  rw [show (9998 : Nat) = 9997 + 1 from rfl, Op.equalIn]
  simp only [Sem.run_bind, run_underlying Try.underlying64, Result.andThen_ok]
  simp only [Std.Legacy.Range.forIn_eq_forIn_range', Std.Legacy.Range.size, Nat.sub_zero, Nat.add_sub_cancel, Nat.div_one, List.range'_succ, List.range'_zero, List.forIn_cons, List.forIn_nil]
  go_simp
  by_cases h0 : v0 = u0
  case neg => simp [h0]
  case pos =>
    subst h0
    by_cases h1 : v1 = u1
    case neg => simp [h1]
    case pos =>
      subst h1
      by_cases h2 : v2 = u2
      case neg => simp [h2]
      case pos =>
        subst h2
        by_cases h3 : v3 = u3
        case neg => simp [h3]
        case pos =>
          subst h3
          by_cases h4 : v4 = u4
          case neg => simp [h4]
          case pos =>
            subst h4
            by_cases h5 : v5 = u5
            case neg => simp [h5]
            case pos =>
              subst h5
              by_cases h6 : v6 = u6
              case neg => simp [h6]
              case pos =>
                subst h6
                by_cases h7 : v7 = u7
                case neg => simp [h7]
                case pos =>
                  subst h7
                  simp
set_option maxHeartbeats 1600000 in
@[go_sem high] theorem place_eq (v0 v1 v2 v3 v4 v5 v6 v7 v8 u0 u1 u2 u3 u4 u5 u6 u7 u8 : Bool) (w : World) : (Op.equalIn 10000 68 (.agg #[.bool v0, .bool v1, .bool v2, .bool v3, .bool v4, .bool v5, .bool v6, .bool v7, .bool v8]) (.agg #[.bool u0, .bool u1, .bool u2, .bool u3, .bool u4, .bool u5, .bool u6, .bool u7, .bool u8])).run Try.prog w = .ok (samePlace v0 v1 v2 v3 v4 v5 v6 v7 v8 u0 u1 u2 u3 u4 u5 u6 u7 u8) w := by
  have h := eight_eq v0 v1 v2 v3 v4 v5 v6 v7 u0 u1 u2 u3 u4 u5 u6 u7
  unfold samePlace
  generalize sameEight v0 v1 v2 v3 v4 v5 v6 v7 u0 u1 u2 u3 u4 u5 u6 u7 = b at h ⊢
  go_simp
  by_cases h8 : v8 = u8 <;> cases b <;> simp [h8]

theorem sameBits_ext {bs cs : List Bool} (hl : bs.length = cs.length) (h8 : bs.length ≤ 8) : sameEight (bs.getD 0 false) (bs.getD 1 false) (bs.getD 2 false) (bs.getD 3 false) (bs.getD 4 false) (bs.getD 5 false) (bs.getD 6 false) (bs.getD 7 false) (cs.getD 0 false) (cs.getD 1 false) (cs.getD 2 false) (cs.getD 3 false) (cs.getD 4 false) (cs.getD 5 false) (cs.getD 6 false) (cs.getD 7 false) = sameBits bs cs := by
  by_cases h : bs = cs
  · subst h
    rw [sameBits_yes rfl]
    simp [sameEight]
  · rw [sameBits_no h]
    cases hs : sameEight (bs.getD 0 false) (bs.getD 1 false) (bs.getD 2 false) (bs.getD 3 false) (bs.getD 4 false) (bs.getD 5 false) (bs.getD 6 false) (bs.getD 7 false) (cs.getD 0 false) (cs.getD 1 false) (cs.getD 2 false) (cs.getD 3 false) (cs.getD 4 false) (cs.getD 5 false) (cs.getD 6 false) (cs.getD 7 false)
    · rfl
    · exfalso
      apply h
      simp only [sameEight, Bool.and_eq_true, beq_iff_eq] at hs
      obtain ⟨⟨⟨⟨⟨⟨⟨e0, e1⟩, e2⟩, e3⟩, e4⟩, e5⟩, e6⟩, e7⟩ := hs
      apply List.ext_getElem hl
      intro i h1 h2
      have g : ∀ (l : List Bool) (h : i < l.length), l[i] = l.getD i false := fun l h => by simp [h]
      rw [g bs h1, g cs h2]
      match i, h1 with
      | 0, _ => exact e0
      | 1, _ => exact e1
      | 2, _ => exact e2
      | 3, _ => exact e3
      | 4, _ => exact e4
      | 5, _ => exact e5
      | 6, _ => exact e6
      | 7, _ => exact e7
      | k + 8, h => omega
end Go.Proofs.Ytjadoehdhbilcaa

namespace Go.Proofs.Ytjadoehdhbilcaa
open Go.RowKit

theorem size_st : (Try.prog.info? 33).map (·.size) = some 2 := by kernel_rfl
theorem Fresh.only {w w' : World} {lo hi b : Nat} {ty : TypeId} {A : Option Addr} {xs : List Value} (hf : Fresh w lo hi ty A xs) (o : Only b w w') (hb : b < lo) : Fresh w' lo hi ty A xs := by
  rcases hf with rfl | ⟨g, cs, hA, h1, h2, hw, h3, h4⟩
  · exact .inl rfl
  · exact .inr ⟨g, cs, hA, h1, h2, o.whole hw (by omega), h3, h4⟩
/-- Is the list a row in a calm state? -/
noncomputable def boatOk (a b : Int) (bs : List Bool) (t : Bool) (l : List Int) : Bool := calmIn a b bs t && tripM a.toNat b (codeOf bs t) l
noncomputable def boatBits (a b : Int) (bs : List Bool) (t : Bool) (l : List Int) : List Bool := if boatOk a b bs t l then flipped bs l else []
noncomputable def boatTorch (a b : Int) (bs : List Bool) (t : Bool) (l : List Int) : Bool := boatOk a b bs t l && !t
theorem boat_no {a b : Int} {bs : List Bool} {t : Bool} {l : List Int} (h : boatOk a b bs t l = false) : boatBits a b bs t l = [] ∧ boatTorch a b bs t l = false ∧ boatOk a b bs t l = false := by simp [boatBits, boatTorch, h]
theorem boat_yes {a b : Int} {bs : List Bool} {t : Bool} {l : List Int} (h : boatOk a b bs t l = true) : boatBits a b bs t l = flipped bs l ∧ boatTorch a b bs t l = !t ∧ boatOk a b bs t l = true := by simp [boatBits, boatTorch, h]
theorem bits_back {n : Nat} {cs : List Bool} {u : Bool} (h : cs.length = n) : bitsOf (codeOf cs u / 2) n = cs := by
  refine List.ext_getElem (by rw [bitsOf_len, h]) fun i h1 h2 => ?_
  have hb := bit_maskUp (fun i => cs.getD i false) cs.length i
  rw [← code_half cs u] at hb
  simp only [bitsOf, List.getElem_map, List.getElem_range]
  rw [hb]
  simp [h2]
theorem torch_back (cs : List Bool) (u : Bool) : bitAt (codeOf cs u) 0 = u := by rw [bit_code]; rfl

set_option maxHeartbeats 12800000 in
set_option maxRecDepth 100000 in
set_option linter.unusedSimpArgs false in
theorem specRowBoat_any (a b : Int) (B D : Option Addr) (m d q z : Nat) (bs : List Bool) (t : Bool) (l : List Int) (w : World) (hB : Holds w B (bits bs)) (hD : Holds w D (nums l)) (hy : bs.length = m) (hz : l.length = q) (hm : m ≤ 9223372036854775807) (hq : q ≤ 9223372036854775807) :
    Calls Try.prog 21 #[.agg #[.int .i64 a, .int .i64 b], .agg #[.slice B m d, .bool t], .slice D q z] w (StatePost (boatBits a b bs t l) (boatTorch a b bs t l) (boatOk a b bs t l) w) := by
  have HY := Lib.hid hy
  have HZ := Lib.hid hz
  have hB2 := ((hB.alloc (.cells #[.int .i64 a, .int .i64 b] 31)).alloc (.cells #[.slice B m d, .bool t] 33)).alloc (.cells #[.slice none 0 0, .bool false] 33)
  have hD2 := ((hD.alloc (.cells #[.int .i64 a, .int .i64 b] 31)).alloc (.cells #[.slice B m d, .bool t] 33)).alloc (.cells #[.slice none 0 0, .bool false] 33)
  have hc := ((Whole.fresh w 31 #[.int .i64 a, .int .i64 b]).alloc (.cells #[.slice B m d, .bool t] 33)).alloc (.cells #[.slice none 0 0, .bool false] 33)
  have hs := (Whole.fresh (w.alloc (.cells #[.int .i64 a, .int .i64 b] 31)) 33 #[.slice B m d, .bool t]).alloc (.cells #[.slice none 0 0, .bool false] 33)
  have hr := Whole.fresh ((w.alloc (.cells #[.int .i64 a, .int .i64 b] 31)).alloc (.cells #[.slice B m d, .bool t] 33)) 33 #[.slice none 0 0, .bool false]
  have ht := below3 w (.cells #[.int .i64 a, .int .i64 b] 31) (.cells #[.slice B m d, .bool t] 33) (.cells #[.slice none 0 0, .bool false] 33)
  rw [World.size_alloc] at hs
  rw [World.size_alloc, World.size_alloc] at hr
  cases h1 : isPlace a b bs t
  · obtain ⟨f1, f2, f3⟩ := boat_no (l := l) (show boatOk a b bs t l = false by simp [boatOk, calmIn_no h1])
    rw [f1, f2, f3]
    have H1 := Lib.hid h1
    clear h1 hy hz f1 f2 f3 hB hD
    go_enter Try.func21, Try.ntmps21
    go_wp2_with fail
    refine wp_region_held_drew (S := (Boxes2 w.heap.size (w.heap.size + 1) (.int .i64 a) (.int .i64 b) (.slice B m d) (.bool t))) (by kernel_rfl) (boxes2_of hc.drew hs.drew) (fun hHeld => ?_)
    replace ht := ht.drew
    replace hc := hc.drew
    replace hs := hs.drew
    replace hr := hr.drew
    replace hB2 := hB2.drew
    replace hD2 := hD2.drew
    refine wpAnyH_take (i := 0) (v := ?_) rfl (by kernel_rfl) (by kernel_rfl) (by kernel_rfl) (fun _ _ _ h => h) (Or.inl ⟨rfl, ?_⟩) hHeld ?_
    rotate_left
    · intro w' hS; obtain ⟨s0, s1, s2, s3⟩ := hS; go_simp <;> with_reducible rfl
    simp only [Act.put, List.getElem_toArray, List.getElem_cons_succ, List.getElem_cons_zero, List.setIfInBounds_toArray, List.set_cons_succ, List.set_cons_zero]
    refine wpAnyH_take (i := 1) (v := ?_) rfl (by kernel_rfl) (by kernel_rfl) (by kernel_rfl) (fun _ _ _ h => h) (Or.inl ⟨rfl, ?_⟩) hHeld ?_
    rotate_left
    · intro w' hS; obtain ⟨s0, s1, s2, s3⟩ := hS; go_simp <;> with_reducible rfl
    simp only [Act.put, List.getElem_toArray, List.getElem_cons_succ, List.getElem_cons_zero, List.setIfInBounds_toArray, List.set_cons_succ, List.set_cons_zero]
    refine wpAnyH_ready (rs := [2]) (by kernel_rfl) (by simp) (AllReadyH.cons rfl (fun K hK => ?_) AllReadyH.nil)
    go_simp
    refine (cuIs_any a b B m d bs t _ hB2 HY.out hm).mono ?_
    rintro e w1 ⟨rfl, hb⟩
    rw [H1.out]
    replace ht := below_then ht hb ht.size
    replace hc := hc.below hb
    replace hs := hs.below hb
    replace hr := hr.below hb
    replace hB2 := hB2.below hb
    replace hD2 := hD2.below hb
    clear hb
    refine hK.out _ _ (boxes2_of hc hs) (fun hHeld => ?_)
    clear hK K
    try simp only [Act.put, List.getElem_toArray, List.getElem_cons_succ, List.getElem_cons_zero, List.setIfInBounds_toArray, List.set_cons_succ, List.set_cons_zero]
    refine wpAnyH_take (i := 3) (v := ?_) rfl (by kernel_rfl) (by kernel_rfl) (by kernel_rfl) (fun _ _ _ h => h) (Or.inl ⟨rfl, ?_⟩) hHeld ?_
    rotate_left
    · intro w' hS; obtain ⟨s0, s1, s2, s3⟩ := hS; go_simp <;> with_reducible rfl
    simp only [Act.put, List.getElem_toArray, List.getElem_cons_succ, List.getElem_cons_zero, List.setIfInBounds_toArray, List.set_cons_succ, List.set_cons_zero]
    refine wpAnyH_take (i := 4) (v := ?_) rfl (by kernel_rfl) (by kernel_rfl) (by kernel_rfl) (fun _ _ _ h => h) (Or.inl ⟨rfl, ?_⟩) hHeld ?_
    rotate_left
    · intro w' hS; obtain ⟨s0, s1, s2, s3⟩ := hS; go_simp <;> with_reducible rfl
    simp only [Act.put, List.getElem_toArray, List.getElem_cons_succ, List.getElem_cons_zero, List.setIfInBounds_toArray, List.set_cons_succ, List.set_cons_zero]
    refine wpAnyH_take (i := 5) (v := undef) rfl (by kernel_rfl) (by kernel_rfl) (by kernel_rfl) (fun _ _ _ h => h) (Or.inr ⟨by simp [Region.wanted, yielded], rfl⟩) hHeld ?_
    simp only [Act.put, List.getElem_toArray, List.getElem_cons_succ, List.getElem_cons_zero, List.setIfInBounds_toArray, List.set_cons_succ, List.set_cons_zero]
    refine wpAnyH_take (i := 6) (v := undef) rfl (by kernel_rfl) (by kernel_rfl) (by kernel_rfl) (fun _ _ _ h => h) (Or.inr ⟨by simp [Region.wanted, yielded], rfl⟩) hHeld ?_
    simp only [Act.put, List.getElem_toArray, List.getElem_cons_succ, List.getElem_cons_zero, List.setIfInBounds_toArray, List.set_cons_succ, List.set_cons_zero]
    refine wpAnyH_take (i := 7) (v := undef) rfl (by kernel_rfl) (by kernel_rfl) (by kernel_rfl) (fun _ _ _ h => h) (Or.inr ⟨by simp [Region.wanted, yielded], rfl⟩) hHeld ?_
    simp only [Act.put, List.getElem_toArray, List.getElem_cons_succ, List.getElem_cons_zero, List.setIfInBounds_toArray, List.set_cons_succ, List.set_cons_zero]
    refine wpAnyH_take (i := 8) (v := undef) rfl (by kernel_rfl) (by kernel_rfl) (by kernel_rfl) (fun _ _ _ h => h) (Or.inr ⟨by simp [Region.wanted, yielded], rfl⟩) hHeld ?_
    simp only [Act.put, List.getElem_toArray, List.getElem_cons_succ, List.getElem_cons_zero, List.setIfInBounds_toArray, List.set_cons_succ, List.set_cons_zero]
    refine wpAnyH_take (i := 9) (v := undef) rfl (by kernel_rfl) (by kernel_rfl) (by kernel_rfl) (fun _ _ _ h => h) (Or.inr ⟨by simp [Region.wanted, yielded], rfl⟩) hHeld ?_
    simp only [Act.put, List.getElem_toArray, List.getElem_cons_succ, List.getElem_cons_zero, List.setIfInBounds_toArray, List.set_cons_succ, List.set_cons_zero]
    refine wpAnyH_take (i := 10) (v := ?_) rfl (by kernel_rfl) (by kernel_rfl) (by kernel_rfl) (fun _ _ _ h => h) (Or.inl ⟨rfl, ?_⟩) hHeld ?_
    rotate_left
    · intro w' hS; obtain ⟨s0, s1, s2, s3⟩ := hS; go_simp <;> with_reducible rfl
    simp only [Act.put, List.getElem_toArray, List.getElem_cons_succ, List.getElem_cons_zero, List.setIfInBounds_toArray, List.set_cons_succ, List.set_cons_zero]
    refine wpAnyH_take (i := 11) (v := ?_) rfl (by kernel_rfl) (by kernel_rfl) (by kernel_rfl) (fun _ _ _ h => h) (Or.inl ⟨rfl, ?_⟩) hHeld ?_
    rotate_left
    · intro w' hS; obtain ⟨s0, s1, s2, s3⟩ := hS; go_simp <;> with_reducible rfl
    simp only [Act.put, List.getElem_toArray, List.getElem_cons_succ, List.getElem_cons_zero, List.setIfInBounds_toArray, List.set_cons_succ, List.set_cons_zero]
    refine wpAnyH_take (i := 12) (v := undef) rfl (by kernel_rfl) (by kernel_rfl) (by kernel_rfl) (fun _ _ _ h => h) (Or.inr ⟨by simp [Region.wanted, yielded], rfl⟩) hHeld ?_
    simp only [Act.put, List.getElem_toArray, List.getElem_cons_succ, List.getElem_cons_zero, List.setIfInBounds_toArray, List.set_cons_succ, List.set_cons_zero]
    refine wpAnyH_take (i := 13) (v := undef) rfl (by kernel_rfl) (by kernel_rfl) (by kernel_rfl) (fun _ _ _ h => h) (Or.inr ⟨by simp [Region.wanted, yielded], rfl⟩) hHeld ?_
    simp only [Act.put, List.getElem_toArray, List.getElem_cons_succ, List.getElem_cons_zero, List.setIfInBounds_toArray, List.set_cons_succ, List.set_cons_zero]
    refine wpAnyH_take (i := 14) (v := undef) rfl (by kernel_rfl) (by kernel_rfl) (by kernel_rfl) (fun _ _ _ h => h) (Or.inr ⟨by simp [Region.wanted, yielded], rfl⟩) hHeld ?_
    simp only [Act.put, List.getElem_toArray, List.getElem_cons_succ, List.getElem_cons_zero, List.setIfInBounds_toArray, List.set_cons_succ, List.set_cons_zero]
    refine wpAnyH_take (i := 15) (v := undef) rfl (by kernel_rfl) (by kernel_rfl) (by kernel_rfl) (fun _ _ _ h => h) (Or.inr ⟨by simp [Region.wanted, yielded], rfl⟩) hHeld ?_
    simp only [Act.put, List.getElem_toArray, List.getElem_cons_succ, List.getElem_cons_zero, List.setIfInBounds_toArray, List.set_cons_succ, List.set_cons_zero]
    refine wpAnyH_take (i := 16) (v := undef) rfl (by kernel_rfl) (by kernel_rfl) (by kernel_rfl) (fun _ _ _ h => h) (Or.inr ⟨by simp [Region.wanted, yielded], rfl⟩) hHeld ?_
    simp only [Act.put, List.getElem_toArray, List.getElem_cons_succ, List.getElem_cons_zero, List.setIfInBounds_toArray, List.set_cons_succ, List.set_cons_zero]
    refine wpAnyH_take (i := 17) (v := undef) rfl (by kernel_rfl) (by kernel_rfl) (by kernel_rfl) (fun _ _ _ h => h) (Or.inr ⟨by simp [Region.wanted, yielded], rfl⟩) hHeld ?_
    simp only [Act.put, List.getElem_toArray, List.getElem_cons_succ, List.getElem_cons_zero, List.setIfInBounds_toArray, List.set_cons_succ, List.set_cons_zero]
    refine wpAnyH_take (i := 18) (v := ?_) rfl (by kernel_rfl) (by kernel_rfl) (by kernel_rfl) (fun _ _ _ h => h) (Or.inl ⟨rfl, ?_⟩) hHeld ?_
    rotate_left
    · intro w' hS; obtain ⟨s0, s1, s2, s3⟩ := hS; go_simp <;> with_reducible rfl
    simp only [Act.put, List.getElem_toArray, List.getElem_cons_succ, List.getElem_cons_zero, List.setIfInBounds_toArray, List.set_cons_succ, List.set_cons_zero]
    refine wpAnyH_done (by kernel_rfl) ?_ _
    clear hHeld
    obtain ⟨r0, r1, g0, g1⟩ := hr.two
    clear hc hs hr hB2 hD2
    go_wp2
    refine bodyPost_ret (v := .tuple #[.agg #[.slice none 0 0, .bool false], .bool false]) (by simp [results, Try.results21, go_sem, r0, r1]) rfl ⟨none, 0, rfl, .inl rfl, below_set (below_set ht (by omega)) (by omega)⟩
  obtain ⟨k, rfl, hk1, hk, -, -, -, -, hl⟩ := place_co h1
  have HQ := Lib.hid (quiet_code (c := k) (t := t) hl)
  have HLT := Lib.hid (show codeOf bs t / 2 < 2 ^ (2 * k) by rw [← hl]; exact code_lt bs t)
  have H1 := Lib.hid h1
  have hm8 : m ≤ 8 := by omega
  have hcy := calmIn_yes h1
  cases h2 : quiet k (fun i => bs.getD i false)
  · obtain ⟨f1, f2, f3⟩ := boat_no (l := l) (show boatOk k b bs t l = false by rw [boatOk, hcy, h2]; rfl)
    rw [f1, f2, f3]
    have H2 := Lib.hid h2
    clear h1 h2 hcy hy hz hl f1 f2 f3 hB hD
    go_enter Try.func21, Try.ntmps21
    go_wp2_with fail
    refine wp_region_held_drew (S := (Boxes2 w.heap.size (w.heap.size + 1) (.int .i64 k) (.int .i64 b) (.slice B m d) (.bool t))) (by kernel_rfl) (boxes2_of hc.drew hs.drew) (fun hHeld => ?_)
    replace ht := ht.drew
    replace hc := hc.drew
    replace hs := hs.drew
    replace hr := hr.drew
    replace hB2 := hB2.drew
    replace hD2 := hD2.drew
    refine wpAnyH_take (i := 0) (v := ?_) rfl (by kernel_rfl) (by kernel_rfl) (by kernel_rfl) (fun _ _ _ h => h) (Or.inl ⟨rfl, ?_⟩) hHeld ?_
    rotate_left
    · intro w' hS; obtain ⟨s0, s1, s2, s3⟩ := hS; go_simp <;> with_reducible rfl
    simp only [Act.put, List.getElem_toArray, List.getElem_cons_succ, List.getElem_cons_zero, List.setIfInBounds_toArray, List.set_cons_succ, List.set_cons_zero]
    refine wpAnyH_take (i := 1) (v := ?_) rfl (by kernel_rfl) (by kernel_rfl) (by kernel_rfl) (fun _ _ _ h => h) (Or.inl ⟨rfl, ?_⟩) hHeld ?_
    rotate_left
    · intro w' hS; obtain ⟨s0, s1, s2, s3⟩ := hS; go_simp <;> with_reducible rfl
    simp only [Act.put, List.getElem_toArray, List.getElem_cons_succ, List.getElem_cons_zero, List.setIfInBounds_toArray, List.set_cons_succ, List.set_cons_zero]
    refine wpAnyH_ready (rs := [2]) (by kernel_rfl) (by simp) (AllReadyH.cons rfl (fun K hK => ?_) AllReadyH.nil)
    go_simp
    refine (cuIs_any k b B m d bs t _ hB2 HY.out hm).mono ?_
    rintro e w1 ⟨rfl, hb⟩
    rw [H1.out]
    replace ht := below_then ht hb ht.size
    replace hc := hc.below hb
    replace hs := hs.below hb
    replace hr := hr.below hb
    replace hB2 := hB2.below hb
    replace hD2 := hD2.below hb
    clear hb
    refine hK.out _ _ (boxes2_of hc hs) (fun hHeld => ?_)
    clear hK K
    try simp only [Act.put, List.getElem_toArray, List.getElem_cons_succ, List.getElem_cons_zero, List.setIfInBounds_toArray, List.set_cons_succ, List.set_cons_zero]
    refine wpAnyH_take (i := 3) (v := ?_) rfl (by kernel_rfl) (by kernel_rfl) (by kernel_rfl) (fun _ _ _ h => h) (Or.inl ⟨rfl, ?_⟩) hHeld ?_
    rotate_left
    · intro w' hS; obtain ⟨s0, s1, s2, s3⟩ := hS; go_simp <;> with_reducible rfl
    simp only [Act.put, List.getElem_toArray, List.getElem_cons_succ, List.getElem_cons_zero, List.setIfInBounds_toArray, List.set_cons_succ, List.set_cons_zero]
    refine wpAnyH_take (i := 4) (v := ?_) rfl (by kernel_rfl) (by kernel_rfl) (by kernel_rfl) (fun _ _ _ h => h) (Or.inl ⟨rfl, ?_⟩) hHeld ?_
    rotate_left
    · intro w' hS; obtain ⟨s0, s1, s2, s3⟩ := hS; go_simp <;> with_reducible rfl
    simp only [Act.put, List.getElem_toArray, List.getElem_cons_succ, List.getElem_cons_zero, List.setIfInBounds_toArray, List.set_cons_succ, List.set_cons_zero]
    refine wpAnyH_take (i := 5) (v := ?_) rfl (by kernel_rfl) (by kernel_rfl) (by kernel_rfl) (fun _ _ _ h => h) (Or.inl ⟨rfl, ?_⟩) hHeld ?_
    rotate_left
    · intro w' hS; obtain ⟨s0, s1, s2, s3⟩ := hS; go_simp <;> with_reducible rfl
    simp only [Act.put, List.getElem_toArray, List.getElem_cons_succ, List.getElem_cons_zero, List.setIfInBounds_toArray, List.set_cons_succ, List.set_cons_zero]
    refine wpAnyH_take (i := 6) (v := ?_) rfl (by kernel_rfl) (by kernel_rfl) (by kernel_rfl) (fun _ _ _ h => h) (Or.inl ⟨rfl, ?_⟩) hHeld ?_
    rotate_left
    · intro w' hS; obtain ⟨s0, s1, s2, s3⟩ := hS; go_simp <;> with_reducible rfl
    simp only [Act.put, List.getElem_toArray, List.getElem_cons_succ, List.getElem_cons_zero, List.setIfInBounds_toArray, List.set_cons_succ, List.set_cons_zero]
    refine wpAnyH_ready (rs := [7]) (by kernel_rfl) (by simp) (AllReadyH.cons rfl (fun K hK => ?_) AllReadyH.nil)
    go_simp
    refine (cuCode_any B m d bs t _ hB2 HY.out (by omega)).mono ?_
    rintro e w2 ⟨rfl, hb⟩
    replace ht := below_then ht hb ht.size
    replace hc := hc.below hb
    replace hs := hs.below hb
    replace hr := hr.below hb
    replace hB2 := hB2.below hb
    replace hD2 := hD2.below hb
    clear hb
    refine hK.out _ _ (boxes2_of hc hs) (fun hHeld => ?_)
    clear hK K
    try simp only [Act.put, List.getElem_toArray, List.getElem_cons_succ, List.getElem_cons_zero, List.setIfInBounds_toArray, List.set_cons_succ, List.set_cons_zero]
    refine wpAnyH_ready (rs := [8]) (by kernel_rfl) (by simp) (AllReadyH.cons rfl (fun K hK => ?_) AllReadyH.nil)
    go_simp
    refine (cuQuiet_any k _ b _ (by omega) HLT.out).mono ?_
    rintro e w3 ⟨rfl, hb⟩
    rw [HQ.out, H2.out]
    replace ht := below_then ht hb ht.size
    replace hc := hc.below hb
    replace hs := hs.below hb
    replace hr := hr.below hb
    replace hB2 := hB2.below hb
    replace hD2 := hD2.below hb
    clear hb
    refine hK.out _ _ (boxes2_of hc hs) (fun hHeld => ?_)
    clear hK K
    try simp only [Act.put, List.getElem_toArray, List.getElem_cons_succ, List.getElem_cons_zero, List.setIfInBounds_toArray, List.set_cons_succ, List.set_cons_zero]
    refine wpAnyH_take (i := 9) (v := ?_) rfl (by kernel_rfl) (by kernel_rfl) (by kernel_rfl) (fun _ _ _ h => h) (Or.inl ⟨rfl, ?_⟩) hHeld ?_
    rotate_left
    · intro w' hS; obtain ⟨s0, s1, s2, s3⟩ := hS; go_simp <;> with_reducible rfl
    simp only [Act.put, List.getElem_toArray, List.getElem_cons_succ, List.getElem_cons_zero, List.setIfInBounds_toArray, List.set_cons_succ, List.set_cons_zero]
    refine wpAnyH_take (i := 10) (v := ?_) rfl (by kernel_rfl) (by kernel_rfl) (by kernel_rfl) (fun _ _ _ h => h) (Or.inl ⟨rfl, ?_⟩) hHeld ?_
    rotate_left
    · intro w' hS; obtain ⟨s0, s1, s2, s3⟩ := hS; go_simp <;> with_reducible rfl
    simp only [Act.put, List.getElem_toArray, List.getElem_cons_succ, List.getElem_cons_zero, List.setIfInBounds_toArray, List.set_cons_succ, List.set_cons_zero]
    refine wpAnyH_take (i := 11) (v := ?_) rfl (by kernel_rfl) (by kernel_rfl) (by kernel_rfl) (fun _ _ _ h => h) (Or.inl ⟨rfl, ?_⟩) hHeld ?_
    rotate_left
    · intro w' hS; obtain ⟨s0, s1, s2, s3⟩ := hS; go_simp <;> with_reducible rfl
    simp only [Act.put, List.getElem_toArray, List.getElem_cons_succ, List.getElem_cons_zero, List.setIfInBounds_toArray, List.set_cons_succ, List.set_cons_zero]
    refine wpAnyH_take (i := 12) (v := undef) rfl (by kernel_rfl) (by kernel_rfl) (by kernel_rfl) (fun _ _ _ h => h) (Or.inr ⟨by simp [Region.wanted, yielded], rfl⟩) hHeld ?_
    simp only [Act.put, List.getElem_toArray, List.getElem_cons_succ, List.getElem_cons_zero, List.setIfInBounds_toArray, List.set_cons_succ, List.set_cons_zero]
    refine wpAnyH_take (i := 13) (v := undef) rfl (by kernel_rfl) (by kernel_rfl) (by kernel_rfl) (fun _ _ _ h => h) (Or.inr ⟨by simp [Region.wanted, yielded], rfl⟩) hHeld ?_
    simp only [Act.put, List.getElem_toArray, List.getElem_cons_succ, List.getElem_cons_zero, List.setIfInBounds_toArray, List.set_cons_succ, List.set_cons_zero]
    refine wpAnyH_take (i := 14) (v := undef) rfl (by kernel_rfl) (by kernel_rfl) (by kernel_rfl) (fun _ _ _ h => h) (Or.inr ⟨by simp [Region.wanted, yielded], rfl⟩) hHeld ?_
    simp only [Act.put, List.getElem_toArray, List.getElem_cons_succ, List.getElem_cons_zero, List.setIfInBounds_toArray, List.set_cons_succ, List.set_cons_zero]
    refine wpAnyH_take (i := 15) (v := undef) rfl (by kernel_rfl) (by kernel_rfl) (by kernel_rfl) (fun _ _ _ h => h) (Or.inr ⟨by simp [Region.wanted, yielded], rfl⟩) hHeld ?_
    simp only [Act.put, List.getElem_toArray, List.getElem_cons_succ, List.getElem_cons_zero, List.setIfInBounds_toArray, List.set_cons_succ, List.set_cons_zero]
    refine wpAnyH_take (i := 16) (v := undef) rfl (by kernel_rfl) (by kernel_rfl) (by kernel_rfl) (fun _ _ _ h => h) (Or.inr ⟨by simp [Region.wanted, yielded], rfl⟩) hHeld ?_
    simp only [Act.put, List.getElem_toArray, List.getElem_cons_succ, List.getElem_cons_zero, List.setIfInBounds_toArray, List.set_cons_succ, List.set_cons_zero]
    refine wpAnyH_take (i := 17) (v := undef) rfl (by kernel_rfl) (by kernel_rfl) (by kernel_rfl) (fun _ _ _ h => h) (Or.inr ⟨by simp [Region.wanted, yielded], rfl⟩) hHeld ?_
    simp only [Act.put, List.getElem_toArray, List.getElem_cons_succ, List.getElem_cons_zero, List.setIfInBounds_toArray, List.set_cons_succ, List.set_cons_zero]
    refine wpAnyH_take (i := 18) (v := ?_) rfl (by kernel_rfl) (by kernel_rfl) (by kernel_rfl) (fun _ _ _ h => h) (Or.inl ⟨rfl, ?_⟩) hHeld ?_
    rotate_left
    · intro w' hS; obtain ⟨s0, s1, s2, s3⟩ := hS; go_simp <;> with_reducible rfl
    simp only [Act.put, List.getElem_toArray, List.getElem_cons_succ, List.getElem_cons_zero, List.setIfInBounds_toArray, List.set_cons_succ, List.set_cons_zero]
    refine wpAnyH_done (by kernel_rfl) ?_ _
    clear hHeld
    obtain ⟨r0, r1, g0, g1⟩ := hr.two
    clear hc hs hr hB2 hD2
    go_wp2
    refine bodyPost_ret (v := .tuple #[.agg #[.slice none 0 0, .bool false], .bool false]) (by simp [results, Try.results21, go_sem, r0, r1]) rfl ⟨none, 0, rfl, .inl rfl, below_set (below_set ht (by omega)) (by omega)⟩
  have H2 := Lib.hid h2
  cases h3 : tripM k b (codeOf bs t) l
  · obtain ⟨f1, f2, f3⟩ := boat_no (show boatOk k b bs t l = false by simp [boatOk, h3])
    rw [f1, f2, f3]
    have H3 := Lib.hid h3
    clear h1 h2 h3 hcy hy hz hl f1 f2 f3 hB hD
    go_enter Try.func21, Try.ntmps21
    go_wp2_with fail
    refine wp_region_held_drew (S := (Boxes2 w.heap.size (w.heap.size + 1) (.int .i64 k) (.int .i64 b) (.slice B m d) (.bool t))) (by kernel_rfl) (boxes2_of hc.drew hs.drew) (fun hHeld => ?_)
    replace ht := ht.drew
    replace hc := hc.drew
    replace hs := hs.drew
    replace hr := hr.drew
    replace hB2 := hB2.drew
    replace hD2 := hD2.drew
    refine wpAnyH_take (i := 0) (v := ?_) rfl (by kernel_rfl) (by kernel_rfl) (by kernel_rfl) (fun _ _ _ h => h) (Or.inl ⟨rfl, ?_⟩) hHeld ?_
    rotate_left
    · intro w' hS; obtain ⟨s0, s1, s2, s3⟩ := hS; go_simp <;> with_reducible rfl
    simp only [Act.put, List.getElem_toArray, List.getElem_cons_succ, List.getElem_cons_zero, List.setIfInBounds_toArray, List.set_cons_succ, List.set_cons_zero]
    refine wpAnyH_take (i := 1) (v := ?_) rfl (by kernel_rfl) (by kernel_rfl) (by kernel_rfl) (fun _ _ _ h => h) (Or.inl ⟨rfl, ?_⟩) hHeld ?_
    rotate_left
    · intro w' hS; obtain ⟨s0, s1, s2, s3⟩ := hS; go_simp <;> with_reducible rfl
    simp only [Act.put, List.getElem_toArray, List.getElem_cons_succ, List.getElem_cons_zero, List.setIfInBounds_toArray, List.set_cons_succ, List.set_cons_zero]
    refine wpAnyH_ready (rs := [2]) (by kernel_rfl) (by simp) (AllReadyH.cons rfl (fun K hK => ?_) AllReadyH.nil)
    go_simp
    refine (cuIs_any k b B m d bs t _ hB2 HY.out hm).mono ?_
    rintro e w1 ⟨rfl, hb⟩
    rw [H1.out]
    replace ht := below_then ht hb ht.size
    replace hc := hc.below hb
    replace hs := hs.below hb
    replace hr := hr.below hb
    replace hB2 := hB2.below hb
    replace hD2 := hD2.below hb
    clear hb
    refine hK.out _ _ (boxes2_of hc hs) (fun hHeld => ?_)
    clear hK K
    try simp only [Act.put, List.getElem_toArray, List.getElem_cons_succ, List.getElem_cons_zero, List.setIfInBounds_toArray, List.set_cons_succ, List.set_cons_zero]
    refine wpAnyH_take (i := 3) (v := ?_) rfl (by kernel_rfl) (by kernel_rfl) (by kernel_rfl) (fun _ _ _ h => h) (Or.inl ⟨rfl, ?_⟩) hHeld ?_
    rotate_left
    · intro w' hS; obtain ⟨s0, s1, s2, s3⟩ := hS; go_simp <;> with_reducible rfl
    simp only [Act.put, List.getElem_toArray, List.getElem_cons_succ, List.getElem_cons_zero, List.setIfInBounds_toArray, List.set_cons_succ, List.set_cons_zero]
    refine wpAnyH_take (i := 4) (v := ?_) rfl (by kernel_rfl) (by kernel_rfl) (by kernel_rfl) (fun _ _ _ h => h) (Or.inl ⟨rfl, ?_⟩) hHeld ?_
    rotate_left
    · intro w' hS; obtain ⟨s0, s1, s2, s3⟩ := hS; go_simp <;> with_reducible rfl
    simp only [Act.put, List.getElem_toArray, List.getElem_cons_succ, List.getElem_cons_zero, List.setIfInBounds_toArray, List.set_cons_succ, List.set_cons_zero]
    refine wpAnyH_take (i := 5) (v := ?_) rfl (by kernel_rfl) (by kernel_rfl) (by kernel_rfl) (fun _ _ _ h => h) (Or.inl ⟨rfl, ?_⟩) hHeld ?_
    rotate_left
    · intro w' hS; obtain ⟨s0, s1, s2, s3⟩ := hS; go_simp <;> with_reducible rfl
    simp only [Act.put, List.getElem_toArray, List.getElem_cons_succ, List.getElem_cons_zero, List.setIfInBounds_toArray, List.set_cons_succ, List.set_cons_zero]
    refine wpAnyH_take (i := 6) (v := ?_) rfl (by kernel_rfl) (by kernel_rfl) (by kernel_rfl) (fun _ _ _ h => h) (Or.inl ⟨rfl, ?_⟩) hHeld ?_
    rotate_left
    · intro w' hS; obtain ⟨s0, s1, s2, s3⟩ := hS; go_simp <;> with_reducible rfl
    simp only [Act.put, List.getElem_toArray, List.getElem_cons_succ, List.getElem_cons_zero, List.setIfInBounds_toArray, List.set_cons_succ, List.set_cons_zero]
    refine wpAnyH_ready (rs := [7]) (by kernel_rfl) (by simp) (AllReadyH.cons rfl (fun K hK => ?_) AllReadyH.nil)
    go_simp
    refine (cuCode_any B m d bs t _ hB2 HY.out (by omega)).mono ?_
    rintro e w2 ⟨rfl, hb⟩
    replace ht := below_then ht hb ht.size
    replace hc := hc.below hb
    replace hs := hs.below hb
    replace hr := hr.below hb
    replace hB2 := hB2.below hb
    replace hD2 := hD2.below hb
    clear hb
    refine hK.out _ _ (boxes2_of hc hs) (fun hHeld => ?_)
    clear hK K
    try simp only [Act.put, List.getElem_toArray, List.getElem_cons_succ, List.getElem_cons_zero, List.setIfInBounds_toArray, List.set_cons_succ, List.set_cons_zero]
    refine wpAnyH_ready (rs := [8]) (by kernel_rfl) (by simp) (AllReadyH.cons rfl (fun K hK => ?_) AllReadyH.nil)
    go_simp
    refine (cuQuiet_any k _ b _ (by omega) HLT.out).mono ?_
    rintro e w3 ⟨rfl, hb⟩
    rw [HQ.out, H2.out]
    replace ht := below_then ht hb ht.size
    replace hc := hc.below hb
    replace hs := hs.below hb
    replace hr := hr.below hb
    replace hB2 := hB2.below hb
    replace hD2 := hD2.below hb
    clear hb
    refine hK.out _ _ (boxes2_of hc hs) (fun hHeld => ?_)
    clear hK K
    try simp only [Act.put, List.getElem_toArray, List.getElem_cons_succ, List.getElem_cons_zero, List.setIfInBounds_toArray, List.set_cons_succ, List.set_cons_zero]
    refine wpAnyH_take (i := 9) (v := ?_) rfl (by kernel_rfl) (by kernel_rfl) (by kernel_rfl) (fun _ _ _ h => h) (Or.inl ⟨rfl, ?_⟩) hHeld ?_
    rotate_left
    · intro w' hS; obtain ⟨s0, s1, s2, s3⟩ := hS; go_simp <;> with_reducible rfl
    simp only [Act.put, List.getElem_toArray, List.getElem_cons_succ, List.getElem_cons_zero, List.setIfInBounds_toArray, List.set_cons_succ, List.set_cons_zero]
    refine wpAnyH_take (i := 10) (v := ?_) rfl (by kernel_rfl) (by kernel_rfl) (by kernel_rfl) (fun _ _ _ h => h) (Or.inl ⟨rfl, ?_⟩) hHeld ?_
    rotate_left
    · intro w' hS; obtain ⟨s0, s1, s2, s3⟩ := hS; go_simp <;> with_reducible rfl
    simp only [Act.put, List.getElem_toArray, List.getElem_cons_succ, List.getElem_cons_zero, List.setIfInBounds_toArray, List.set_cons_succ, List.set_cons_zero]
    refine wpAnyH_take (i := 11) (v := ?_) rfl (by kernel_rfl) (by kernel_rfl) (by kernel_rfl) (fun _ _ _ h => h) (Or.inl ⟨rfl, ?_⟩) hHeld ?_
    rotate_left
    · intro w' hS; obtain ⟨s0, s1, s2, s3⟩ := hS; go_simp <;> with_reducible rfl
    simp only [Act.put, List.getElem_toArray, List.getElem_cons_succ, List.getElem_cons_zero, List.setIfInBounds_toArray, List.set_cons_succ, List.set_cons_zero]
    refine wpAnyH_take (i := 12) (v := ?_) rfl (by kernel_rfl) (by kernel_rfl) (by kernel_rfl) (fun _ _ _ h => h) (Or.inl ⟨rfl, ?_⟩) hHeld ?_
    rotate_left
    · intro w' hS; obtain ⟨s0, s1, s2, s3⟩ := hS; go_simp <;> with_reducible rfl
    simp only [Act.put, List.getElem_toArray, List.getElem_cons_succ, List.getElem_cons_zero, List.setIfInBounds_toArray, List.set_cons_succ, List.set_cons_zero]
    refine wpAnyH_take (i := 13) (v := ?_) rfl (by kernel_rfl) (by kernel_rfl) (by kernel_rfl) (fun _ _ _ h => h) (Or.inl ⟨rfl, ?_⟩) hHeld ?_
    rotate_left
    · intro w' hS; obtain ⟨s0, s1, s2, s3⟩ := hS; go_simp <;> with_reducible rfl
    simp only [Act.put, List.getElem_toArray, List.getElem_cons_succ, List.getElem_cons_zero, List.setIfInBounds_toArray, List.set_cons_succ, List.set_cons_zero]
    refine wpAnyH_take (i := 15) (v := ?_) rfl (by kernel_rfl) (by kernel_rfl) (by kernel_rfl) (fun _ _ _ h => h) (Or.inl ⟨rfl, ?_⟩) hHeld ?_
    rotate_left
    · intro w' hS; obtain ⟨s0, s1, s2, s3⟩ := hS; go_simp <;> with_reducible rfl
    simp only [Act.put, List.getElem_toArray, List.getElem_cons_succ, List.getElem_cons_zero, List.setIfInBounds_toArray, List.set_cons_succ, List.set_cons_zero]
    refine wpAnyH_ready (rs := [14]) (by kernel_rfl) (by simp) (AllReadyH.cons rfl (fun K hK => ?_) AllReadyH.nil)
    go_simp
    refine (cuCode_any B m d bs t _ hB2 HY.out (by omega)).mono ?_
    rintro e w2 ⟨rfl, hb⟩
    replace ht := below_then ht hb ht.size
    replace hc := hc.below hb
    replace hs := hs.below hb
    replace hr := hr.below hb
    replace hB2 := hB2.below hb
    replace hD2 := hD2.below hb
    clear hb
    refine hK.out _ _ (boxes2_of hc hs) (fun hHeld => ?_)
    clear hK K
    try simp only [Act.put, List.getElem_toArray, List.getElem_cons_succ, List.getElem_cons_zero, List.setIfInBounds_toArray, List.set_cons_succ, List.set_cons_zero]
    refine wpAnyH_ready (rs := [16]) (by kernel_rfl) (by simp) (AllReadyH.cons rfl (fun K hK => ?_) AllReadyH.nil)
    go_simp
    refine (cuTrip_any k b _ D q z l _ hk HLT.out hD2 HZ.out hq).mono ?_
    rintro e w5 ⟨rfl, hb⟩
    rw [H3.out]
    replace ht := below_then ht hb ht.size
    replace hc := hc.below hb
    replace hs := hs.below hb
    replace hr := hr.below hb
    replace hB2 := hB2.below hb
    replace hD2 := hD2.below hb
    clear hb
    refine hK.out _ _ (boxes2_of hc hs) (fun hHeld => ?_)
    clear hK K
    try simp only [Act.put, List.getElem_toArray, List.getElem_cons_succ, List.getElem_cons_zero, List.setIfInBounds_toArray, List.set_cons_succ, List.set_cons_zero]
    refine wpAnyH_take (i := 17) (v := ?_) rfl (by kernel_rfl) (by kernel_rfl) (by kernel_rfl) (fun _ _ _ h => h) (Or.inl ⟨rfl, ?_⟩) hHeld ?_
    rotate_left
    · intro w' hS; obtain ⟨s0, s1, s2, s3⟩ := hS; go_simp <;> with_reducible rfl
    simp only [Act.put, List.getElem_toArray, List.getElem_cons_succ, List.getElem_cons_zero, List.setIfInBounds_toArray, List.set_cons_succ, List.set_cons_zero]
    refine wpAnyH_take (i := 18) (v := ?_) rfl (by kernel_rfl) (by kernel_rfl) (by kernel_rfl) (fun _ _ _ h => h) (Or.inl ⟨rfl, ?_⟩) hHeld ?_
    rotate_left
    · intro w' hS; obtain ⟨s0, s1, s2, s3⟩ := hS; go_simp <;> with_reducible rfl
    simp only [Act.put, List.getElem_toArray, List.getElem_cons_succ, List.getElem_cons_zero, List.setIfInBounds_toArray, List.set_cons_succ, List.set_cons_zero]
    refine wpAnyH_done (by kernel_rfl) ?_ _
    clear hHeld
    obtain ⟨r0, r1, g0, g1⟩ := hr.two
    clear hc hs hr hB2 hD2
    go_wp2
    refine bodyPost_ret (v := .tuple #[.agg #[.slice none 0 0, .bool false], .bool false]) (by simp [results, Try.results21, go_sem, r0, r1]) rfl ⟨none, 0, rfl, .inl rfl, below_set (below_set ht (by omega)) (by omega)⟩
  obtain ⟨f1, f2, f3⟩ := boat_yes (show boatOk k b bs t l = true by rw [boatOk, hcy, h2]; simpa using h3)
  rw [f1, f2, f3]
  have H3 := Lib.hid h3
  obtain ⟨hst, hmk⟩ := trip_mask hk h3
  have hbd : ∀ x ∈ l, 0 ≤ x ∧ x < ((2 * k : Nat) : Int) := fun x hx => by have := mem_steps hst hx; omega
  have hp := pow_c hk
  have hm8' : maskOf l < 256 := by omega
  have HST := Lib.hid hst
  have hwA : IntKind.i64.wrap (2 * (maskOf l : Int)) = 2 * (maskOf l : Int) := IntWalk.i64_in _ (by omega)
  have hwB : IntKind.i64.wrap (2 * (maskOf l : Int) + 1) = 2 * (maskOf l : Int) + 1 := IntWalk.i64_in _ (by omega)
  have hsc := step_code (t := t) hl hbd
  have hc9 : codeOf bs t / 2 < 256 := Nat.lt_of_lt_of_le HLT.out hp
  obtain ⟨X, hX⟩ : ∃ X : Nat, X = stepC (codeOf bs t) l := ⟨_, rfl⟩
  have HFL := Lib.hid (show (flipped bs l).length = 2 * k by rw [flipped_len]; exact hl)
  have HE1 : Hid (bitsOf (X / 2) (2 * k) = flipped bs l) := by show _ = _; rw [hX, hsc]; exact bits_back HFL.out
  have HE2 : Hid (bitAt X 0 = !t) := by show _ = _; rw [hX, hsc]; exact torch_back _ _
  have HXX : Hid (Go.bits .xor .i64 (codeOf bs t : Int) (2 * (maskOf l : Int) + 1) = (X : Int)) := by
    show _ = _
    rw [show (2 * (maskOf l : Int) + 1) = ((2 * maskOf l + 1 : Nat) : Int) by omega, bits_xor_nat _ _ (by omega) (by omega), hX]
    rfl
  replace hX : X < 1048576 := by
    have := stepC_lt (k := k) (l := l) HLT.out hmk
    rw [← hX] at this
    omega
  clear h1 h2 h3 hcy hy hz hl f1 f2 f3 hB hD hst hmk hbd hp hsc
  go_enter Try.func21, Try.ntmps21
  go_wp2_with fail
  refine wp_region_held_drew (S := (Boxes2 w.heap.size (w.heap.size + 1) (.int .i64 k) (.int .i64 b) (.slice B m d) (.bool t))) (by kernel_rfl) (boxes2_of hc.drew hs.drew) (fun hHeld => ?_)
  replace ht := ht.drew
  replace hc := hc.drew
  replace hs := hs.drew
  replace hr := hr.drew
  replace hB2 := hB2.drew
  replace hD2 := hD2.drew
  refine wpAnyH_take (i := 0) (v := ?_) rfl (by kernel_rfl) (by kernel_rfl) (by kernel_rfl) (fun _ _ _ h => h) (Or.inl ⟨rfl, ?_⟩) hHeld ?_
  rotate_left
  · intro w' hS; obtain ⟨s0, s1, s2, s3⟩ := hS; go_simp <;> with_reducible rfl
  simp only [Act.put, List.getElem_toArray, List.getElem_cons_succ, List.getElem_cons_zero, List.setIfInBounds_toArray, List.set_cons_succ, List.set_cons_zero]
  refine wpAnyH_take (i := 1) (v := ?_) rfl (by kernel_rfl) (by kernel_rfl) (by kernel_rfl) (fun _ _ _ h => h) (Or.inl ⟨rfl, ?_⟩) hHeld ?_
  rotate_left
  · intro w' hS; obtain ⟨s0, s1, s2, s3⟩ := hS; go_simp <;> with_reducible rfl
  simp only [Act.put, List.getElem_toArray, List.getElem_cons_succ, List.getElem_cons_zero, List.setIfInBounds_toArray, List.set_cons_succ, List.set_cons_zero]
  refine wpAnyH_ready (rs := [2]) (by kernel_rfl) (by simp) (AllReadyH.cons rfl (fun K hK => ?_) AllReadyH.nil)
  go_simp
  refine (cuIs_any k b B m d bs t _ hB2 HY.out hm).mono ?_
  rintro e w1 ⟨rfl, hb⟩
  rw [H1.out]
  replace ht := below_then ht hb ht.size
  replace hc := hc.below hb
  replace hs := hs.below hb
  replace hr := hr.below hb
  replace hB2 := hB2.below hb
  replace hD2 := hD2.below hb
  clear hb
  refine hK.out _ _ (boxes2_of hc hs) (fun hHeld => ?_)
  clear hK K
  try simp only [Act.put, List.getElem_toArray, List.getElem_cons_succ, List.getElem_cons_zero, List.setIfInBounds_toArray, List.set_cons_succ, List.set_cons_zero]
  refine wpAnyH_take (i := 3) (v := ?_) rfl (by kernel_rfl) (by kernel_rfl) (by kernel_rfl) (fun _ _ _ h => h) (Or.inl ⟨rfl, ?_⟩) hHeld ?_
  rotate_left
  · intro w' hS; obtain ⟨s0, s1, s2, s3⟩ := hS; go_simp <;> with_reducible rfl
  simp only [Act.put, List.getElem_toArray, List.getElem_cons_succ, List.getElem_cons_zero, List.setIfInBounds_toArray, List.set_cons_succ, List.set_cons_zero]
  refine wpAnyH_take (i := 4) (v := ?_) rfl (by kernel_rfl) (by kernel_rfl) (by kernel_rfl) (fun _ _ _ h => h) (Or.inl ⟨rfl, ?_⟩) hHeld ?_
  rotate_left
  · intro w' hS; obtain ⟨s0, s1, s2, s3⟩ := hS; go_simp <;> with_reducible rfl
  simp only [Act.put, List.getElem_toArray, List.getElem_cons_succ, List.getElem_cons_zero, List.setIfInBounds_toArray, List.set_cons_succ, List.set_cons_zero]
  refine wpAnyH_take (i := 5) (v := ?_) rfl (by kernel_rfl) (by kernel_rfl) (by kernel_rfl) (fun _ _ _ h => h) (Or.inl ⟨rfl, ?_⟩) hHeld ?_
  rotate_left
  · intro w' hS; obtain ⟨s0, s1, s2, s3⟩ := hS; go_simp <;> with_reducible rfl
  simp only [Act.put, List.getElem_toArray, List.getElem_cons_succ, List.getElem_cons_zero, List.setIfInBounds_toArray, List.set_cons_succ, List.set_cons_zero]
  refine wpAnyH_take (i := 6) (v := ?_) rfl (by kernel_rfl) (by kernel_rfl) (by kernel_rfl) (fun _ _ _ h => h) (Or.inl ⟨rfl, ?_⟩) hHeld ?_
  rotate_left
  · intro w' hS; obtain ⟨s0, s1, s2, s3⟩ := hS; go_simp <;> with_reducible rfl
  simp only [Act.put, List.getElem_toArray, List.getElem_cons_succ, List.getElem_cons_zero, List.setIfInBounds_toArray, List.set_cons_succ, List.set_cons_zero]
  refine wpAnyH_ready (rs := [7]) (by kernel_rfl) (by simp) (AllReadyH.cons rfl (fun K hK => ?_) AllReadyH.nil)
  go_simp
  refine (cuCode_any B m d bs t _ hB2 HY.out (by omega)).mono ?_
  rintro e w2 ⟨rfl, hb⟩
  replace ht := below_then ht hb ht.size
  replace hc := hc.below hb
  replace hs := hs.below hb
  replace hr := hr.below hb
  replace hB2 := hB2.below hb
  replace hD2 := hD2.below hb
  clear hb
  refine hK.out _ _ (boxes2_of hc hs) (fun hHeld => ?_)
  clear hK K
  try simp only [Act.put, List.getElem_toArray, List.getElem_cons_succ, List.getElem_cons_zero, List.setIfInBounds_toArray, List.set_cons_succ, List.set_cons_zero]
  refine wpAnyH_ready (rs := [8]) (by kernel_rfl) (by simp) (AllReadyH.cons rfl (fun K hK => ?_) AllReadyH.nil)
  go_simp
  refine (cuQuiet_any k _ b _ (by omega) HLT.out).mono ?_
  rintro e w3 ⟨rfl, hb⟩
  rw [HQ.out, H2.out]
  replace ht := below_then ht hb ht.size
  replace hc := hc.below hb
  replace hs := hs.below hb
  replace hr := hr.below hb
  replace hB2 := hB2.below hb
  replace hD2 := hD2.below hb
  clear hb
  refine hK.out _ _ (boxes2_of hc hs) (fun hHeld => ?_)
  clear hK K
  try simp only [Act.put, List.getElem_toArray, List.getElem_cons_succ, List.getElem_cons_zero, List.setIfInBounds_toArray, List.set_cons_succ, List.set_cons_zero]
  refine wpAnyH_take (i := 9) (v := ?_) rfl (by kernel_rfl) (by kernel_rfl) (by kernel_rfl) (fun _ _ _ h => h) (Or.inl ⟨rfl, ?_⟩) hHeld ?_
  rotate_left
  · intro w' hS; obtain ⟨s0, s1, s2, s3⟩ := hS; go_simp <;> with_reducible rfl
  simp only [Act.put, List.getElem_toArray, List.getElem_cons_succ, List.getElem_cons_zero, List.setIfInBounds_toArray, List.set_cons_succ, List.set_cons_zero]
  refine wpAnyH_take (i := 10) (v := ?_) rfl (by kernel_rfl) (by kernel_rfl) (by kernel_rfl) (fun _ _ _ h => h) (Or.inl ⟨rfl, ?_⟩) hHeld ?_
  rotate_left
  · intro w' hS; obtain ⟨s0, s1, s2, s3⟩ := hS; go_simp <;> with_reducible rfl
  simp only [Act.put, List.getElem_toArray, List.getElem_cons_succ, List.getElem_cons_zero, List.setIfInBounds_toArray, List.set_cons_succ, List.set_cons_zero]
  refine wpAnyH_take (i := 11) (v := ?_) rfl (by kernel_rfl) (by kernel_rfl) (by kernel_rfl) (fun _ _ _ h => h) (Or.inl ⟨rfl, ?_⟩) hHeld ?_
  rotate_left
  · intro w' hS; obtain ⟨s0, s1, s2, s3⟩ := hS; go_simp <;> with_reducible rfl
  simp only [Act.put, List.getElem_toArray, List.getElem_cons_succ, List.getElem_cons_zero, List.setIfInBounds_toArray, List.set_cons_succ, List.set_cons_zero]
  refine wpAnyH_take (i := 12) (v := ?_) rfl (by kernel_rfl) (by kernel_rfl) (by kernel_rfl) (fun _ _ _ h => h) (Or.inl ⟨rfl, ?_⟩) hHeld ?_
  rotate_left
  · intro w' hS; obtain ⟨s0, s1, s2, s3⟩ := hS; go_simp <;> with_reducible rfl
  simp only [Act.put, List.getElem_toArray, List.getElem_cons_succ, List.getElem_cons_zero, List.setIfInBounds_toArray, List.set_cons_succ, List.set_cons_zero]
  refine wpAnyH_take (i := 13) (v := ?_) rfl (by kernel_rfl) (by kernel_rfl) (by kernel_rfl) (fun _ _ _ h => h) (Or.inl ⟨rfl, ?_⟩) hHeld ?_
  rotate_left
  · intro w' hS; obtain ⟨s0, s1, s2, s3⟩ := hS; go_simp <;> with_reducible rfl
  simp only [Act.put, List.getElem_toArray, List.getElem_cons_succ, List.getElem_cons_zero, List.setIfInBounds_toArray, List.set_cons_succ, List.set_cons_zero]
  refine wpAnyH_take (i := 15) (v := ?_) rfl (by kernel_rfl) (by kernel_rfl) (by kernel_rfl) (fun _ _ _ h => h) (Or.inl ⟨rfl, ?_⟩) hHeld ?_
  rotate_left
  · intro w' hS; obtain ⟨s0, s1, s2, s3⟩ := hS; go_simp <;> with_reducible rfl
  simp only [Act.put, List.getElem_toArray, List.getElem_cons_succ, List.getElem_cons_zero, List.setIfInBounds_toArray, List.set_cons_succ, List.set_cons_zero]
  refine wpAnyH_ready (rs := [14]) (by kernel_rfl) (by simp) (AllReadyH.cons rfl (fun K hK => ?_) AllReadyH.nil)
  go_simp
  refine (cuCode_any B m d bs t _ hB2 HY.out (by omega)).mono ?_
  rintro e w2 ⟨rfl, hb⟩
  replace ht := below_then ht hb ht.size
  replace hc := hc.below hb
  replace hs := hs.below hb
  replace hr := hr.below hb
  replace hB2 := hB2.below hb
  replace hD2 := hD2.below hb
  clear hb
  refine hK.out _ _ (boxes2_of hc hs) (fun hHeld => ?_)
  clear hK K
  try simp only [Act.put, List.getElem_toArray, List.getElem_cons_succ, List.getElem_cons_zero, List.setIfInBounds_toArray, List.set_cons_succ, List.set_cons_zero]
  refine wpAnyH_ready (rs := [16]) (by kernel_rfl) (by simp) (AllReadyH.cons rfl (fun K hK => ?_) AllReadyH.nil)
  go_simp
  refine (cuTrip_any k b _ D q z l _ hk HLT.out hD2 HZ.out hq).mono ?_
  rintro e w5 ⟨rfl, hb⟩
  rw [H3.out]
  replace ht := below_then ht hb ht.size
  replace hc := hc.below hb
  replace hs := hs.below hb
  replace hr := hr.below hb
  replace hB2 := hB2.below hb
  replace hD2 := hD2.below hb
  clear hb
  refine hK.out _ _ (boxes2_of hc hs) (fun hHeld => ?_)
  clear hK K
  try simp only [Act.put, List.getElem_toArray, List.getElem_cons_succ, List.getElem_cons_zero, List.setIfInBounds_toArray, List.set_cons_succ, List.set_cons_zero]
  refine wpAnyH_take (i := 17) (v := ?_) rfl (by kernel_rfl) (by kernel_rfl) (by kernel_rfl) (fun _ _ _ h => h) (Or.inl ⟨rfl, ?_⟩) hHeld ?_
  rotate_left
  · intro w' hS; obtain ⟨s0, s1, s2, s3⟩ := hS; go_simp <;> with_reducible rfl
  simp only [Act.put, List.getElem_toArray, List.getElem_cons_succ, List.getElem_cons_zero, List.setIfInBounds_toArray, List.set_cons_succ, List.set_cons_zero]
  refine wpAnyH_take (i := 18) (v := ?_) rfl (by kernel_rfl) (by kernel_rfl) (by kernel_rfl) (fun _ _ _ h => h) (Or.inl ⟨rfl, ?_⟩) hHeld ?_
  rotate_left
  · intro w' hS; obtain ⟨s0, s1, s2, s3⟩ := hS; go_simp <;> with_reducible rfl
  simp only [Act.put, List.getElem_toArray, List.getElem_cons_succ, List.getElem_cons_zero, List.setIfInBounds_toArray, List.set_cons_succ, List.set_cons_zero]
  refine wpAnyH_done (by kernel_rfl) ?_ _
  clear hHeld
  go_wp2_with fail
  refine wp_region_held_drew (S := (Boxes2 w.heap.size (w.heap.size + 1) (.int .i64 k) (.int .i64 b) (.slice B m d) (.bool t))) (by kernel_rfl) (boxes2_of hc.drew hs.drew) (fun hHeld => ?_)
  replace ht := ht.drew
  replace hc := hc.drew
  replace hs := hs.drew
  replace hr := hr.drew
  replace hB2 := hB2.drew
  replace hD2 := hD2.drew
  refine wpAnyH_take (i := 0) (v := ?_) rfl (by kernel_rfl) (by kernel_rfl) (by kernel_rfl) (fun _ _ _ h => h) (Or.inl ⟨rfl, ?_⟩) hHeld ?_
  rotate_left
  · intro w' hS; obtain ⟨s0, s1, s2, s3⟩ := hS; go_simp <;> with_reducible rfl
  simp only [Act.put, List.getElem_toArray, List.getElem_cons_succ, List.getElem_cons_zero, List.setIfInBounds_toArray, List.set_cons_succ, List.set_cons_zero]
  refine wpAnyH_take (i := 1) (v := ?_) rfl (by kernel_rfl) (by kernel_rfl) (by kernel_rfl) (fun _ _ _ h => h) (Or.inl ⟨rfl, ?_⟩) hHeld ?_
  rotate_left
  · intro w' hS; obtain ⟨s0, s1, s2, s3⟩ := hS; go_simp <;> with_reducible rfl
  simp only [Act.put, List.getElem_toArray, List.getElem_cons_succ, List.getElem_cons_zero, List.setIfInBounds_toArray, List.set_cons_succ, List.set_cons_zero]
  refine wpAnyH_take (i := 3) (v := ?_) rfl (by kernel_rfl) (by kernel_rfl) (by kernel_rfl) (fun _ _ _ h => h) (Or.inl ⟨rfl, ?_⟩) hHeld ?_
  rotate_left
  · intro w' hS; obtain ⟨s0, s1, s2, s3⟩ := hS; go_simp <;> with_reducible rfl
  simp only [Act.put, List.getElem_toArray, List.getElem_cons_succ, List.getElem_cons_zero, List.setIfInBounds_toArray, List.set_cons_succ, List.set_cons_zero]
  refine wpAnyH_ready (rs := [2]) (by kernel_rfl) (by simp) (AllReadyH.cons rfl (fun K hK => ?_) AllReadyH.nil)
  go_simp
  refine (cuCode_any B m d bs t _ hB2 HY.out (by omega)).mono ?_
  rintro e w2 ⟨rfl, hb⟩
  replace ht := below_then ht hb ht.size
  replace hc := hc.below hb
  replace hs := hs.below hb
  replace hr := hr.below hb
  replace hB2 := hB2.below hb
  replace hD2 := hD2.below hb
  clear hb
  refine hK.out _ _ (boxes2_of hc hs) (fun hHeld => ?_)
  clear hK K
  try simp only [Act.put, List.getElem_toArray, List.getElem_cons_succ, List.getElem_cons_zero, List.setIfInBounds_toArray, List.set_cons_succ, List.set_cons_zero]
  refine wpAnyH_ready (rs := [4]) (by kernel_rfl) (by simp) (AllReadyH.cons rfl (fun K hK => ?_) AllReadyH.nil)
  go_simp
  refine (cuBits_any D q z l (2 * k - 1) _ hD2 HZ.out hq HST.out (by omega)).mono ?_
  rintro e w6 ⟨rfl, rfl⟩
  refine hK.out _ _ (boxes2_of hc hs) (fun hHeld => ?_)
  clear hK K
  try simp only [Act.put, List.getElem_toArray, List.getElem_cons_succ, List.getElem_cons_zero, List.setIfInBounds_toArray, List.set_cons_succ, List.set_cons_zero]
  refine wpAnyH_take (i := 5) (v := ?_) rfl (by kernel_rfl) (by kernel_rfl) (by kernel_rfl) (fun _ _ _ h => h) (Or.inl ⟨rfl, ?_⟩) hHeld ?_
  rotate_left
  · intro w' hS; obtain ⟨s0, s1, s2, s3⟩ := hS; go_simp <;> with_reducible rfl
  simp only [Act.put, List.getElem_toArray, List.getElem_cons_succ, List.getElem_cons_zero, List.setIfInBounds_toArray, List.set_cons_succ, List.set_cons_zero]
  refine wpAnyH_take (i := 6) (v := ?_) rfl (by kernel_rfl) (by kernel_rfl) (by kernel_rfl) (fun _ _ _ h => h) (Or.inl ⟨rfl, ?_⟩) hHeld ?_
  rotate_left
  · intro w' hS; obtain ⟨s0, s1, s2, s3⟩ := hS; go_simp <;> with_reducible rfl
  simp only [Act.put, List.getElem_toArray, List.getElem_cons_succ, List.getElem_cons_zero, List.setIfInBounds_toArray, List.set_cons_succ, List.set_cons_zero]
  refine wpAnyH_take (i := 7) (v := ?_) rfl (by kernel_rfl) (by kernel_rfl) (by kernel_rfl) (fun _ _ _ h => h) (Or.inl ⟨rfl, ?_⟩) hHeld ?_
  rotate_left
  · intro w' hS; obtain ⟨s0, s1, s2, s3⟩ := hS; go_simp <;> with_reducible rfl
  simp only [Act.put, List.getElem_toArray, List.getElem_cons_succ, List.getElem_cons_zero, List.setIfInBounds_toArray, List.set_cons_succ, List.set_cons_zero]
  refine wpAnyH_ready (rs := [8]) (by kernel_rfl) (by simp) (AllReadyH.cons rfl (fun K hK => ?_) AllReadyH.nil)
  go_simp
  try simp only [hwA, hwB]
  rw [HXX.out]
  have hlo := hr.lt
  refine (cuState_own k X b _ hk hX).mono ?_
  rintro e w8 ⟨E, r, rfl, hf, hb⟩
  rw [HE1.out] at hf
  rw [HE2.out]
  replace ht := below_then ht hb ht.size
  replace hc := hc.below hb
  replace hs := hs.below hb
  replace hr := hr.below hb
  replace hB2 := hB2.below hb
  replace hD2 := hD2.below hb
  clear hb
  refine hK.out _ _ (boxes2_of hc hs) (fun hHeld => ?_)
  clear hK K
  try simp only [Act.put, List.getElem_toArray, List.getElem_cons_succ, List.getElem_cons_zero, List.setIfInBounds_toArray, List.set_cons_succ, List.set_cons_zero]
  refine wpAnyH_ready (rs := [9]) (by kernel_rfl) (by simp) (AllReadyH.cons rfl (fun K hK => ?_) AllReadyH.nil)
  refine wp_store_row 33 (.tmp 6) (.tmp 36) rfl (w.heap.size + 1 + 1) #[.slice E (2 * k : Nat) r, .bool (!t)] rfl rfl 33 #[.slice none 0 0, .bool false] hr size_st rfl (by simp [Value.oneCell']) ?_
  have o9 := only_setRow w8 (w.heap.size + 1 + 1) #[.slice E (2 * k : Nat) r, .bool (!t)]
  have r9 := whole_setRow #[.slice E (2 * k : Nat) r, .bool (!t)] hr
  have c9 := o9.whole hc (by omega)
  have s9 := o9.whole hs (by omega)
  have t9 := o9.below ht (by omega)
  have f9 := (hf.only o9 (by omega)).more (lo' := w.heap.size) (by omega) (Nat.le_of_eq o9.size.symm)
  generalize World.setRow w8 (w.heap.size + 1 + 1) #[.slice E (2 * k : Nat) r, .bool (!t)] = w9 at o9 r9 c9 s9 t9 f9 ⊢
  refine hK.out _ _ (boxes2_of c9 s9) (fun hHeld => ?_)
  clear hK K
  try simp only [Act.put, List.getElem_toArray, List.getElem_cons_succ, List.getElem_cons_zero, List.setIfInBounds_toArray, List.set_cons_succ, List.set_cons_zero]
  refine wpAnyH_take (i := 10) (v := ?_) rfl (by kernel_rfl) (by kernel_rfl) (by kernel_rfl) (fun _ _ _ h => h) (Or.inl ⟨rfl, ?_⟩) hHeld ?_
  rotate_left
  · intro w' hS; obtain ⟨s0, s1, s2, s3⟩ := hS; go_simp <;> with_reducible rfl
  simp only [Act.put, List.getElem_toArray, List.getElem_cons_succ, List.getElem_cons_zero, List.setIfInBounds_toArray, List.set_cons_succ, List.set_cons_zero]
  refine wpAnyH_done (by kernel_rfl) ?_ _
  clear hHeld
  obtain ⟨r0, r1, -, -⟩ := r9.two
  clear hc hs hr hB2 hD2 c9 s9 o9
  go_wp2
  refine bodyPost_ret (v := .tuple #[.agg #[.slice E (2 * k) r, .bool (!t)], .bool true]) (by simp [results, Try.results21, go_sem, r0, r1]) rfl ⟨E, r, by rw [HFL.out], f9, t9⟩
end Go.Proofs.Ytjadoehdhbilcaa

namespace Go.Proofs.Ytjadoehdhbilcaa
open Go.RowKit

/-- What a call hands back that makes a list of lists and tells whether it did. -/
def BackPost (ls : List (List Int)) (ok : Bool) (w : World) (e : Ending) (w' : World) : Prop :=
  ∃ (A : Option Addr) (n c : Nat) (rs : List RowV), e = .returned (.tuple #[.slice A n c, .bool ok]) ∧ rowNums rs = ls ∧ rs.length = n ∧ FreeGrid w' w.heap.size w'.heap.size A rs ∧ Below w.heap.size w w'
theorem BackPost.no {w w' : World} (h : Below w.heap.size w w') : BackPost [] false w (.returned (.tuple #[.slice none 0 0, .bool false])) w' :=
  ⟨none, 0, 0, [], rfl, rfl, rfl, (Heads.nil w' w.heap.size).free, h⟩
theorem part_lens {w : World} {A : Option Addr} {rs : List RowV} (h : Grid w A rs) : part rs rs.length = ((rowNums rs).map List.length).sum := by
  rw [part_sum]
  have : ∀ ts : List RowV, (∀ r ∈ ts, r.xs.length = r.n) → ts.map RowV.n = (rowNums ts).map List.length := by
    intro ts ht
    simp only [rowNums, List.map_map]
    exact List.map_congr_left fun r hr => (ht r hr).symm
  rw [this rs fun r hr => (h.2 r hr).2.1]
theorem sum_lens {ls : List (List Int)} {k : Nat} (h : ∀ l ∈ ls, l.length ≤ k) : (ls.map List.length).sum ≤ k * ls.length := by
  induction ls with
  | nil => simp
  | cons l ls ih =>
    have h1 := h l (by simp)
    have h2 := ih fun x hx => h x (List.mem_cons_of_mem _ hx)
    rw [List.map_cons, List.sum_cons, List.length_cons, Nat.mul_succ]
    omega
end Go.Proofs.Ytjadoehdhbilcaa

namespace Go.Proofs.Ytjadoehdhbilcaa
open Go.RowKit

theorem rows_of_same {k q x : Nat} (h : (!quiet k (bitAt (x / 2)) || rowsSame k q x) = true) (hq : quiet k (bitAt (x / 2)) = true) : (rowsM k q x (2 ^ (2 * k) - 1) 1 []).map listOf = rowsIn k q (bitsOf (x / 2) (2 * k)) (bitAt x 0) := by
  rw [hq, Bool.not_true, Bool.false_or] at h
  exact eq_of_beq h
theorem rows_list {k q : Nat} {bs : List Bool} {t : Bool} (hk1 : 1 ≤ k) (hk : k ≤ 4) (hq1 : 1 ≤ q) (hq4 : q ≤ 4) (hl : bs.length = 2 * k) (hq : quiet k (bitAt (codeOf bs t / 2)) = true) : (rowsM k q (codeOf bs t) (2 ^ (2 * k) - 1) 1 []).map listOf = rowsIn k q bs t := by
  have hx := code_lt bs t
  rw [hl] at hx
  have key : (rowsM k q (codeOf bs t) (2 ^ (2 * k) - 1) 1 []).map listOf = rowsIn k q (bitsOf (codeOf bs t / 2) (2 * k)) (bitAt (codeOf bs t) 0) := by
    obtain ⟨p, rfl⟩ : ∃ p, q = p + 1 := ⟨q - 1, by omega⟩
    refine rows_of_same ?_ hq
    generalize codeOf bs t = x at hx
    obtain rfl | rfl | rfl | rfl : k = 1 ∨ k = 2 ∨ k = 3 ∨ k = 4 := by omega
    · exact List.all_eq_true.1 (List.all_eq_true.1 rows_same1 p (List.mem_range.2 (by omega))) x (List.mem_range.2 (by omega))
    · exact List.all_eq_true.1 (List.all_eq_true.1 rows_same2 p (List.mem_range.2 (by omega))) x (List.mem_range.2 (by omega))
    · exact List.all_eq_true.1 (List.all_eq_true.1 rows_same3 p (List.mem_range.2 (by omega))) x (List.mem_range.2 (by omega))
    · exact List.all_eq_true.1 (List.all_eq_true.1 rows_same4 p (List.mem_range.2 (by omega))) x (List.mem_range.2 (by omega))
  rw [key, bits_back hl, torch_back]
theorem rowsM_mem (k : Nat) (q : Int) (x : Nat) : ∀ (n g : Nat) (out : List Nat), (∀ y ∈ out, y < 256) → g + n ≤ 256 → ∀ y ∈ rowsM k q x n g out, y < 256
  | 0, _, _, h, _ => h
  | n + 1, g, out, h, hg => rowsM_mem k q x n (g + 1) _ (by split; { exact insG_mem h (by omega) }; { exact h }) (by omega)
theorem rowsM_len (k : Nat) (q : Int) (x : Nat) : ∀ (n g : Nat) (out : List Nat), (rowsM k q x n g out).length ≤ out.length + n
  | 0, _, out => Nat.le_refl _
  | n + 1, g, out => by
    rw [rowsM_next]
    refine Nat.le_trans (rowsM_len k q x n (g + 1) _) ?_
    split
    · rw [insG_len]; omega
    · omega
/-- The rows of a state: none where it isn't calm. -/
noncomputable def rowsLs (a b : Int) (bs : List Bool) (t : Bool) : List (List Int) := if calmIn a b bs t then rowsIn a.toNat b.toNat bs t else []
theorem rowsLs_le {a b : Int} {bs : List Bool} {t : Bool} : (rowsLs a b bs t).length ≤ 1048576 ∧ ((rowsLs a b bs t).map List.length).sum ≤ 1048576 := by
  cases h : calmIn a b bs t
  · simp [rowsLs, h]
  · have hp : isPlace a b bs t = true := by
      cases hp : isPlace a b bs t
      · rw [calmIn_no hp] at h; cases h
      · rfl
    obtain ⟨k, rfl, hk1, hk, hb1, hb4, -, -, hl⟩ := place_co hp
    obtain ⟨q, rfl⟩ : ∃ q : Nat, b = q := ⟨b.toNat, by omega⟩
    have hq : quiet k (bitAt (codeOf bs t / 2)) = true := by rw [quiet_code (c := k) (t := t) hl, ← calmIn_yes hp]; exact h
    have hr := rows_list (q := q) hk1 hk (by omega) (by omega) hl hq
    rw [show rowsLs k q bs t = rowsIn k q bs t by simp [rowsLs, h], ← hr]
    have h1 := rowsM_len k q (codeOf bs t) (2 ^ (2 * k) - 1) 1 []
    have hp4 := pow_c hk
    generalize rowsM k q (codeOf bs t) (2 ^ (2 * k) - 1) 1 [] = R at h1
    have h2 := sum_lens (k := 8) (ls := R.map listOf) fun l hl => by obtain ⟨g, -, rfl⟩ := List.mem_map.1 hl; exact listOf_le g
    rw [List.length_map] at h2 ⊢
    simp only [List.length_nil] at h1
    omega

set_option maxHeartbeats 12800000 in
set_option maxRecDepth 100000 in
set_option linter.unusedSimpArgs false in
theorem specRowsOf_any (a b : Int) (B : Option Addr) (m d : Nat) (bs : List Bool) (t : Bool) (w : World) (hB : Holds w B (bits bs)) (hy : bs.length = m) (hm : m ≤ 9223372036854775807) :
    Calls Try.prog 12 #[.agg #[.int .i64 a, .int .i64 b], .agg #[.slice B m d, .bool t]] w (BackPost (rowsLs a b bs t) (calmIn a b bs t) w) := by
  have HY := Lib.hid hy
  have hB2 := (hB.alloc (.cells #[.int .i64 a, .int .i64 b] 31)).alloc (.cells #[.slice B m d, .bool t] 33)
  have hc := (Whole.fresh w 31 #[.int .i64 a, .int .i64 b]).alloc (.cells #[.slice B m d, .bool t] 33)
  have hs := Whole.fresh (w.alloc (.cells #[.int .i64 a, .int .i64 b] 31)) 33 #[.slice B m d, .bool t]
  have ht := below2 w (.cells #[.int .i64 a, .int .i64 b] 31) (.cells #[.slice B m d, .bool t] 33)
  rw [World.size_alloc] at hs
  cases h1 : isPlace a b bs t
  · have hcn := calmIn_no h1
    rw [show rowsLs a b bs t = [] by simp [rowsLs, hcn], hcn]
    have H1 := Lib.hid h1
    clear h1 hy hB hcn
    go_enter Try.func12, Try.ntmps12
    go_wp2_with fail
    refine wp_region_held_drew (S := (Boxes2 w.heap.size (w.heap.size + 1) (.int .i64 a) (.int .i64 b) (.slice B m d) (.bool t))) (by kernel_rfl) (boxes2_of hc.drew hs.drew) (fun hHeld => ?_)
    replace ht := ht.drew
    replace hc := hc.drew
    replace hs := hs.drew
    replace hB2 := hB2.drew
    refine wpAnyH_take (i := 0) (v := ?_) rfl (by kernel_rfl) (by kernel_rfl) (by kernel_rfl) (fun _ _ _ h => h) (Or.inl ⟨rfl, ?_⟩) hHeld ?_
    rotate_left
    · intro w' hS; obtain ⟨s0, s1, s2, s3⟩ := hS; go_simp <;> with_reducible rfl
    simp only [Act.put, List.getElem_toArray, List.getElem_cons_succ, List.getElem_cons_zero, List.setIfInBounds_toArray, List.set_cons_succ, List.set_cons_zero]
    refine wpAnyH_take (i := 1) (v := ?_) rfl (by kernel_rfl) (by kernel_rfl) (by kernel_rfl) (fun _ _ _ h => h) (Or.inl ⟨rfl, ?_⟩) hHeld ?_
    rotate_left
    · intro w' hS; obtain ⟨s0, s1, s2, s3⟩ := hS; go_simp <;> with_reducible rfl
    simp only [Act.put, List.getElem_toArray, List.getElem_cons_succ, List.getElem_cons_zero, List.setIfInBounds_toArray, List.set_cons_succ, List.set_cons_zero]
    refine wpAnyH_ready (rs := [2]) (by kernel_rfl) (by simp) (AllReadyH.cons rfl (fun K hK => ?_) AllReadyH.nil)
    go_simp
    refine (cuIs_any a b B m d bs t _ hB2 HY.out hm).mono ?_
    rintro e w1 ⟨rfl, hb⟩
    rw [H1.out]
    replace ht := below_then ht hb ht.size
    replace hc := hc.below hb
    replace hs := hs.below hb
    replace hB2 := hB2.below hb
    clear hb
    refine hK.out _ _ (boxes2_of hc hs) (fun hHeld => ?_)
    clear hK K
    try simp only [Act.put, List.getElem_toArray, List.getElem_cons_succ, List.getElem_cons_zero, List.setIfInBounds_toArray, List.set_cons_succ, List.set_cons_zero]
    refine wpAnyH_take (i := 3) (v := ?_) rfl (by kernel_rfl) (by kernel_rfl) (by kernel_rfl) (fun _ _ _ h => h) (Or.inl ⟨rfl, ?_⟩) hHeld ?_
    rotate_left
    · intro w' hS; obtain ⟨s0, s1, s2, s3⟩ := hS; go_simp <;> with_reducible rfl
    simp only [Act.put, List.getElem_toArray, List.getElem_cons_succ, List.getElem_cons_zero, List.setIfInBounds_toArray, List.set_cons_succ, List.set_cons_zero]
    refine wpAnyH_take (i := 4) (v := ?_) rfl (by kernel_rfl) (by kernel_rfl) (by kernel_rfl) (fun _ _ _ h => h) (Or.inl ⟨rfl, ?_⟩) hHeld ?_
    rotate_left
    · intro w' hS; obtain ⟨s0, s1, s2, s3⟩ := hS; go_simp <;> with_reducible rfl
    simp only [Act.put, List.getElem_toArray, List.getElem_cons_succ, List.getElem_cons_zero, List.setIfInBounds_toArray, List.set_cons_succ, List.set_cons_zero]
    refine wpAnyH_take (i := 5) (v := undef) rfl (by kernel_rfl) (by kernel_rfl) (by kernel_rfl) (fun _ _ _ h => h) (Or.inr ⟨by simp [Region.wanted, yielded], rfl⟩) hHeld ?_
    simp only [Act.put, List.getElem_toArray, List.getElem_cons_succ, List.getElem_cons_zero, List.setIfInBounds_toArray, List.set_cons_succ, List.set_cons_zero]
    refine wpAnyH_take (i := 6) (v := undef) rfl (by kernel_rfl) (by kernel_rfl) (by kernel_rfl) (fun _ _ _ h => h) (Or.inr ⟨by simp [Region.wanted, yielded], rfl⟩) hHeld ?_
    simp only [Act.put, List.getElem_toArray, List.getElem_cons_succ, List.getElem_cons_zero, List.setIfInBounds_toArray, List.set_cons_succ, List.set_cons_zero]
    refine wpAnyH_take (i := 7) (v := undef) rfl (by kernel_rfl) (by kernel_rfl) (by kernel_rfl) (fun _ _ _ h => h) (Or.inr ⟨by simp [Region.wanted, yielded], rfl⟩) hHeld ?_
    simp only [Act.put, List.getElem_toArray, List.getElem_cons_succ, List.getElem_cons_zero, List.setIfInBounds_toArray, List.set_cons_succ, List.set_cons_zero]
    refine wpAnyH_take (i := 8) (v := undef) rfl (by kernel_rfl) (by kernel_rfl) (by kernel_rfl) (fun _ _ _ h => h) (Or.inr ⟨by simp [Region.wanted, yielded], rfl⟩) hHeld ?_
    simp only [Act.put, List.getElem_toArray, List.getElem_cons_succ, List.getElem_cons_zero, List.setIfInBounds_toArray, List.set_cons_succ, List.set_cons_zero]
    refine wpAnyH_take (i := 9) (v := undef) rfl (by kernel_rfl) (by kernel_rfl) (by kernel_rfl) (fun _ _ _ h => h) (Or.inr ⟨by simp [Region.wanted, yielded], rfl⟩) hHeld ?_
    simp only [Act.put, List.getElem_toArray, List.getElem_cons_succ, List.getElem_cons_zero, List.setIfInBounds_toArray, List.set_cons_succ, List.set_cons_zero]
    refine wpAnyH_take (i := 10) (v := ?_) rfl (by kernel_rfl) (by kernel_rfl) (by kernel_rfl) (fun _ _ _ h => h) (Or.inl ⟨rfl, ?_⟩) hHeld ?_
    rotate_left
    · intro w' hS; obtain ⟨s0, s1, s2, s3⟩ := hS; go_simp <;> with_reducible rfl
    simp only [Act.put, List.getElem_toArray, List.getElem_cons_succ, List.getElem_cons_zero, List.setIfInBounds_toArray, List.set_cons_succ, List.set_cons_zero]
    refine wpAnyH_done (by kernel_rfl) ?_ _
    clear hHeld
    clear hc hs hB2
    go_wp2
    go_ret2
    exact BackPost.no ht
  obtain ⟨k, rfl, hk1, hk, hb1, hb4, -, -, hl⟩ := place_co h1
  have HQ := Lib.hid (quiet_code (c := k) (t := t) hl)
  have HLT := Lib.hid (show codeOf bs t / 2 < 2 ^ (2 * k) by rw [← hl]; exact code_lt bs t)
  have H1 := Lib.hid h1
  have hm8 : m ≤ 8 := by omega
  have hcy := calmIn_yes h1
  cases h2 : quiet k (fun i => bs.getD i false)
  · rw [h2] at hcy
    rw [show rowsLs k b bs t = [] by simp [rowsLs, hcy], hcy]
    have H2 := Lib.hid h2
    clear h1 h2 hcy hy hl hB
    go_enter Try.func12, Try.ntmps12
    go_wp2_with fail
    refine wp_region_held_drew (S := (Boxes2 w.heap.size (w.heap.size + 1) (.int .i64 k) (.int .i64 b) (.slice B m d) (.bool t))) (by kernel_rfl) (boxes2_of hc.drew hs.drew) (fun hHeld => ?_)
    replace ht := ht.drew
    replace hc := hc.drew
    replace hs := hs.drew
    replace hB2 := hB2.drew
    refine wpAnyH_take (i := 0) (v := ?_) rfl (by kernel_rfl) (by kernel_rfl) (by kernel_rfl) (fun _ _ _ h => h) (Or.inl ⟨rfl, ?_⟩) hHeld ?_
    rotate_left
    · intro w' hS; obtain ⟨s0, s1, s2, s3⟩ := hS; go_simp <;> with_reducible rfl
    simp only [Act.put, List.getElem_toArray, List.getElem_cons_succ, List.getElem_cons_zero, List.setIfInBounds_toArray, List.set_cons_succ, List.set_cons_zero]
    refine wpAnyH_take (i := 1) (v := ?_) rfl (by kernel_rfl) (by kernel_rfl) (by kernel_rfl) (fun _ _ _ h => h) (Or.inl ⟨rfl, ?_⟩) hHeld ?_
    rotate_left
    · intro w' hS; obtain ⟨s0, s1, s2, s3⟩ := hS; go_simp <;> with_reducible rfl
    simp only [Act.put, List.getElem_toArray, List.getElem_cons_succ, List.getElem_cons_zero, List.setIfInBounds_toArray, List.set_cons_succ, List.set_cons_zero]
    refine wpAnyH_ready (rs := [2]) (by kernel_rfl) (by simp) (AllReadyH.cons rfl (fun K hK => ?_) AllReadyH.nil)
    go_simp
    refine (cuIs_any k b B m d bs t _ hB2 HY.out hm).mono ?_
    rintro e w1 ⟨rfl, hb⟩
    rw [H1.out]
    replace ht := below_then ht hb ht.size
    replace hc := hc.below hb
    replace hs := hs.below hb
    replace hB2 := hB2.below hb
    clear hb
    refine hK.out _ _ (boxes2_of hc hs) (fun hHeld => ?_)
    clear hK K
    try simp only [Act.put, List.getElem_toArray, List.getElem_cons_succ, List.getElem_cons_zero, List.setIfInBounds_toArray, List.set_cons_succ, List.set_cons_zero]
    refine wpAnyH_take (i := 3) (v := ?_) rfl (by kernel_rfl) (by kernel_rfl) (by kernel_rfl) (fun _ _ _ h => h) (Or.inl ⟨rfl, ?_⟩) hHeld ?_
    rotate_left
    · intro w' hS; obtain ⟨s0, s1, s2, s3⟩ := hS; go_simp <;> with_reducible rfl
    simp only [Act.put, List.getElem_toArray, List.getElem_cons_succ, List.getElem_cons_zero, List.setIfInBounds_toArray, List.set_cons_succ, List.set_cons_zero]
    refine wpAnyH_take (i := 4) (v := ?_) rfl (by kernel_rfl) (by kernel_rfl) (by kernel_rfl) (fun _ _ _ h => h) (Or.inl ⟨rfl, ?_⟩) hHeld ?_
    rotate_left
    · intro w' hS; obtain ⟨s0, s1, s2, s3⟩ := hS; go_simp <;> with_reducible rfl
    simp only [Act.put, List.getElem_toArray, List.getElem_cons_succ, List.getElem_cons_zero, List.setIfInBounds_toArray, List.set_cons_succ, List.set_cons_zero]
    refine wpAnyH_take (i := 5) (v := ?_) rfl (by kernel_rfl) (by kernel_rfl) (by kernel_rfl) (fun _ _ _ h => h) (Or.inl ⟨rfl, ?_⟩) hHeld ?_
    rotate_left
    · intro w' hS; obtain ⟨s0, s1, s2, s3⟩ := hS; go_simp <;> with_reducible rfl
    simp only [Act.put, List.getElem_toArray, List.getElem_cons_succ, List.getElem_cons_zero, List.setIfInBounds_toArray, List.set_cons_succ, List.set_cons_zero]
    refine wpAnyH_take (i := 6) (v := ?_) rfl (by kernel_rfl) (by kernel_rfl) (by kernel_rfl) (fun _ _ _ h => h) (Or.inl ⟨rfl, ?_⟩) hHeld ?_
    rotate_left
    · intro w' hS; obtain ⟨s0, s1, s2, s3⟩ := hS; go_simp <;> with_reducible rfl
    simp only [Act.put, List.getElem_toArray, List.getElem_cons_succ, List.getElem_cons_zero, List.setIfInBounds_toArray, List.set_cons_succ, List.set_cons_zero]
    refine wpAnyH_ready (rs := [7]) (by kernel_rfl) (by simp) (AllReadyH.cons rfl (fun K hK => ?_) AllReadyH.nil)
    go_simp
    refine (cuCode_any B m d bs t _ hB2 HY.out (by omega)).mono ?_
    rintro e w2 ⟨rfl, hb⟩
    replace ht := below_then ht hb ht.size
    replace hc := hc.below hb
    replace hs := hs.below hb
    replace hB2 := hB2.below hb
    clear hb
    refine hK.out _ _ (boxes2_of hc hs) (fun hHeld => ?_)
    clear hK K
    try simp only [Act.put, List.getElem_toArray, List.getElem_cons_succ, List.getElem_cons_zero, List.setIfInBounds_toArray, List.set_cons_succ, List.set_cons_zero]
    refine wpAnyH_ready (rs := [8]) (by kernel_rfl) (by simp) (AllReadyH.cons rfl (fun K hK => ?_) AllReadyH.nil)
    go_simp
    refine (cuQuiet_any k _ b _ (by omega) HLT.out).mono ?_
    rintro e w3 ⟨rfl, hb⟩
    rw [HQ.out, H2.out]
    replace ht := below_then ht hb ht.size
    replace hc := hc.below hb
    replace hs := hs.below hb
    replace hB2 := hB2.below hb
    clear hb
    refine hK.out _ _ (boxes2_of hc hs) (fun hHeld => ?_)
    clear hK K
    try simp only [Act.put, List.getElem_toArray, List.getElem_cons_succ, List.getElem_cons_zero, List.setIfInBounds_toArray, List.set_cons_succ, List.set_cons_zero]
    refine wpAnyH_take (i := 9) (v := ?_) rfl (by kernel_rfl) (by kernel_rfl) (by kernel_rfl) (fun _ _ _ h => h) (Or.inl ⟨rfl, ?_⟩) hHeld ?_
    rotate_left
    · intro w' hS; obtain ⟨s0, s1, s2, s3⟩ := hS; go_simp <;> with_reducible rfl
    simp only [Act.put, List.getElem_toArray, List.getElem_cons_succ, List.getElem_cons_zero, List.setIfInBounds_toArray, List.set_cons_succ, List.set_cons_zero]
    refine wpAnyH_take (i := 10) (v := ?_) rfl (by kernel_rfl) (by kernel_rfl) (by kernel_rfl) (fun _ _ _ h => h) (Or.inl ⟨rfl, ?_⟩) hHeld ?_
    rotate_left
    · intro w' hS; obtain ⟨s0, s1, s2, s3⟩ := hS; go_simp <;> with_reducible rfl
    simp only [Act.put, List.getElem_toArray, List.getElem_cons_succ, List.getElem_cons_zero, List.setIfInBounds_toArray, List.set_cons_succ, List.set_cons_zero]
    refine wpAnyH_done (by kernel_rfl) ?_ _
    clear hHeld
    clear hc hs hB2
    go_wp2
    go_ret2
    exact BackPost.no ht
  have H2 := Lib.hid h2
  rw [h2] at hcy
  have hrl : rowsLs k b bs t = rowsIn k b.toNat bs t := by simp [rowsLs, hcy]
  obtain ⟨q, rfl⟩ : ∃ q : Nat, b = q := ⟨b.toNat, by omega⟩
  rw [Int.toNat_natCast, ← rows_list hk1 hk (by omega) (by omega) hl (by rw [HQ.out, h2])] at hrl
  have hp := pow_c hk
  have hMM := rowsM_mem k q (codeOf bs t) (2 ^ (2 * k) - 1) 1 [] (fun y hy => absurd hy (List.not_mem_nil)) (by omega)
  have hML := rowsM_len k q (codeOf bs t) (2 ^ (2 * k) - 1) 1 []
  obtain ⟨R, hR⟩ : ∃ R, R = rowsM k q (codeOf bs t) (2 ^ (2 * k) - 1) 1 [] := ⟨_, rfl⟩
  rw [← hR] at hrl hMM hML
  rw [hrl, hcy]
  have HR := Lib.hid hR.symm
  have HMM := Lib.hid hMM
  have hR255 : R.length ≤ 255 := by simp at hML; omega
  obtain ⟨i0, hi, hz0, hz1, hz2⟩ := info_parts info_row
  have HI := Lib.hid hi
  have HZ0 := Lib.hid hz0
  have HZ1 := Lib.hid hz1
  have HZ2 := Lib.hid hz2
  clear h1 h2 hcy hy hl hB hrl hp hMM hML hR hi hz0 hz1 hz2
  go_enter Try.func12, Try.ntmps12
  go_wp2_with fail
  refine wp_region_held_drew (S := (Boxes2 w.heap.size (w.heap.size + 1) (.int .i64 k) (.int .i64 q) (.slice B m d) (.bool t))) (by kernel_rfl) (boxes2_of hc.drew hs.drew) (fun hHeld => ?_)
  replace ht := ht.drew
  replace hc := hc.drew
  replace hs := hs.drew
  replace hB2 := hB2.drew
  refine wpAnyH_take (i := 0) (v := ?_) rfl (by kernel_rfl) (by kernel_rfl) (by kernel_rfl) (fun _ _ _ h => h) (Or.inl ⟨rfl, ?_⟩) hHeld ?_
  rotate_left
  · intro w' hS; obtain ⟨s0, s1, s2, s3⟩ := hS; go_simp <;> with_reducible rfl
  simp only [Act.put, List.getElem_toArray, List.getElem_cons_succ, List.getElem_cons_zero, List.setIfInBounds_toArray, List.set_cons_succ, List.set_cons_zero]
  refine wpAnyH_take (i := 1) (v := ?_) rfl (by kernel_rfl) (by kernel_rfl) (by kernel_rfl) (fun _ _ _ h => h) (Or.inl ⟨rfl, ?_⟩) hHeld ?_
  rotate_left
  · intro w' hS; obtain ⟨s0, s1, s2, s3⟩ := hS; go_simp <;> with_reducible rfl
  simp only [Act.put, List.getElem_toArray, List.getElem_cons_succ, List.getElem_cons_zero, List.setIfInBounds_toArray, List.set_cons_succ, List.set_cons_zero]
  refine wpAnyH_ready (rs := [2]) (by kernel_rfl) (by simp) (AllReadyH.cons rfl (fun K hK => ?_) AllReadyH.nil)
  go_simp
  refine (cuIs_any k q B m d bs t _ hB2 HY.out hm).mono ?_
  rintro e w1 ⟨rfl, hb⟩
  rw [H1.out]
  replace ht := below_then ht hb ht.size
  replace hc := hc.below hb
  replace hs := hs.below hb
  replace hB2 := hB2.below hb
  clear hb
  refine hK.out _ _ (boxes2_of hc hs) (fun hHeld => ?_)
  clear hK K
  try simp only [Act.put, List.getElem_toArray, List.getElem_cons_succ, List.getElem_cons_zero, List.setIfInBounds_toArray, List.set_cons_succ, List.set_cons_zero]
  refine wpAnyH_take (i := 3) (v := ?_) rfl (by kernel_rfl) (by kernel_rfl) (by kernel_rfl) (fun _ _ _ h => h) (Or.inl ⟨rfl, ?_⟩) hHeld ?_
  rotate_left
  · intro w' hS; obtain ⟨s0, s1, s2, s3⟩ := hS; go_simp <;> with_reducible rfl
  simp only [Act.put, List.getElem_toArray, List.getElem_cons_succ, List.getElem_cons_zero, List.setIfInBounds_toArray, List.set_cons_succ, List.set_cons_zero]
  refine wpAnyH_take (i := 4) (v := ?_) rfl (by kernel_rfl) (by kernel_rfl) (by kernel_rfl) (fun _ _ _ h => h) (Or.inl ⟨rfl, ?_⟩) hHeld ?_
  rotate_left
  · intro w' hS; obtain ⟨s0, s1, s2, s3⟩ := hS; go_simp <;> with_reducible rfl
  simp only [Act.put, List.getElem_toArray, List.getElem_cons_succ, List.getElem_cons_zero, List.setIfInBounds_toArray, List.set_cons_succ, List.set_cons_zero]
  refine wpAnyH_take (i := 5) (v := ?_) rfl (by kernel_rfl) (by kernel_rfl) (by kernel_rfl) (fun _ _ _ h => h) (Or.inl ⟨rfl, ?_⟩) hHeld ?_
  rotate_left
  · intro w' hS; obtain ⟨s0, s1, s2, s3⟩ := hS; go_simp <;> with_reducible rfl
  simp only [Act.put, List.getElem_toArray, List.getElem_cons_succ, List.getElem_cons_zero, List.setIfInBounds_toArray, List.set_cons_succ, List.set_cons_zero]
  refine wpAnyH_take (i := 6) (v := ?_) rfl (by kernel_rfl) (by kernel_rfl) (by kernel_rfl) (fun _ _ _ h => h) (Or.inl ⟨rfl, ?_⟩) hHeld ?_
  rotate_left
  · intro w' hS; obtain ⟨s0, s1, s2, s3⟩ := hS; go_simp <;> with_reducible rfl
  simp only [Act.put, List.getElem_toArray, List.getElem_cons_succ, List.getElem_cons_zero, List.setIfInBounds_toArray, List.set_cons_succ, List.set_cons_zero]
  refine wpAnyH_ready (rs := [7]) (by kernel_rfl) (by simp) (AllReadyH.cons rfl (fun K hK => ?_) AllReadyH.nil)
  go_simp
  refine (cuCode_any B m d bs t _ hB2 HY.out (by omega)).mono ?_
  rintro e w2 ⟨rfl, hb⟩
  replace ht := below_then ht hb ht.size
  replace hc := hc.below hb
  replace hs := hs.below hb
  replace hB2 := hB2.below hb
  clear hb
  refine hK.out _ _ (boxes2_of hc hs) (fun hHeld => ?_)
  clear hK K
  try simp only [Act.put, List.getElem_toArray, List.getElem_cons_succ, List.getElem_cons_zero, List.setIfInBounds_toArray, List.set_cons_succ, List.set_cons_zero]
  refine wpAnyH_ready (rs := [8]) (by kernel_rfl) (by simp) (AllReadyH.cons rfl (fun K hK => ?_) AllReadyH.nil)
  go_simp
  refine (cuQuiet_any k _ q _ (by omega) HLT.out).mono ?_
  rintro e w3 ⟨rfl, hb⟩
  rw [HQ.out, H2.out]
  replace ht := below_then ht hb ht.size
  replace hc := hc.below hb
  replace hs := hs.below hb
  replace hB2 := hB2.below hb
  clear hb
  refine hK.out _ _ (boxes2_of hc hs) (fun hHeld => ?_)
  clear hK K
  try simp only [Act.put, List.getElem_toArray, List.getElem_cons_succ, List.getElem_cons_zero, List.setIfInBounds_toArray, List.set_cons_succ, List.set_cons_zero]
  refine wpAnyH_take (i := 9) (v := ?_) rfl (by kernel_rfl) (by kernel_rfl) (by kernel_rfl) (fun _ _ _ h => h) (Or.inl ⟨rfl, ?_⟩) hHeld ?_
  rotate_left
  · intro w' hS; obtain ⟨s0, s1, s2, s3⟩ := hS; go_simp <;> with_reducible rfl
  simp only [Act.put, List.getElem_toArray, List.getElem_cons_succ, List.getElem_cons_zero, List.setIfInBounds_toArray, List.set_cons_succ, List.set_cons_zero]
  refine wpAnyH_take (i := 10) (v := ?_) rfl (by kernel_rfl) (by kernel_rfl) (by kernel_rfl) (fun _ _ _ h => h) (Or.inl ⟨rfl, ?_⟩) hHeld ?_
  rotate_left
  · intro w' hS; obtain ⟨s0, s1, s2, s3⟩ := hS; go_simp <;> with_reducible rfl
  simp only [Act.put, List.getElem_toArray, List.getElem_cons_succ, List.getElem_cons_zero, List.setIfInBounds_toArray, List.set_cons_succ, List.set_cons_zero]
  refine wpAnyH_done (by kernel_rfl) ?_ _
  clear hHeld
  go_wp2_with fail
  refine wp_region_held_drew (S := (Boxes2 w.heap.size (w.heap.size + 1) (.int .i64 k) (.int .i64 q) (.slice B m d) (.bool t))) (by kernel_rfl) (boxes2_of hc.drew hs.drew) (fun hHeld => ?_)
  replace ht := ht.drew
  replace hc := hc.drew
  replace hs := hs.drew
  replace hB2 := hB2.drew
  refine wpAnyH_take (i := 0) (v := ?_) rfl (by kernel_rfl) (by kernel_rfl) (by kernel_rfl) (fun _ _ _ h => h) (Or.inl ⟨rfl, ?_⟩) hHeld ?_
  rotate_left
  · intro w' hS; obtain ⟨s0, s1, s2, s3⟩ := hS; go_simp <;> with_reducible rfl
  simp only [Act.put, List.getElem_toArray, List.getElem_cons_succ, List.getElem_cons_zero, List.setIfInBounds_toArray, List.set_cons_succ, List.set_cons_zero]
  refine wpAnyH_take (i := 1) (v := ?_) rfl (by kernel_rfl) (by kernel_rfl) (by kernel_rfl) (fun _ _ _ h => h) (Or.inl ⟨rfl, ?_⟩) hHeld ?_
  rotate_left
  · intro w' hS; obtain ⟨s0, s1, s2, s3⟩ := hS; go_simp <;> with_reducible rfl
  simp only [Act.put, List.getElem_toArray, List.getElem_cons_succ, List.getElem_cons_zero, List.setIfInBounds_toArray, List.set_cons_succ, List.set_cons_zero]
  refine wpAnyH_take (i := 5) (v := ?_) rfl (by kernel_rfl) (by kernel_rfl) (by kernel_rfl) (fun _ _ _ h => h) (Or.inl ⟨rfl, ?_⟩) hHeld ?_
  rotate_left
  · intro w' hS; obtain ⟨s0, s1, s2, s3⟩ := hS; go_simp <;> with_reducible rfl
  simp only [Act.put, List.getElem_toArray, List.getElem_cons_succ, List.getElem_cons_zero, List.setIfInBounds_toArray, List.set_cons_succ, List.set_cons_zero]
  refine wpAnyH_ready (rs := [2]) (by kernel_rfl) (by simp) (AllReadyH.cons rfl (fun K hK => ?_) AllReadyH.nil)
  go_simp
  refine (cuCode_any B m d bs t _ hB2 HY.out (by omega)).mono ?_
  rintro e w2 ⟨rfl, hb⟩
  replace ht := below_then ht hb ht.size
  replace hc := hc.below hb
  replace hs := hs.below hb
  replace hB2 := hB2.below hb
  clear hb
  refine hK.out _ _ (boxes2_of hc hs) (fun hHeld => ?_)
  clear hK K
  try simp only [Act.put, List.getElem_toArray, List.getElem_cons_succ, List.getElem_cons_zero, List.setIfInBounds_toArray, List.set_cons_succ, List.set_cons_zero]
  refine wpAnyH_ready (rs := [3]) (by kernel_rfl) (by simp) (AllReadyH.cons rfl (fun K hK => ?_) AllReadyH.nil)
  go_simp
  refine (cuRows_any k q _ _ hk HLT.out).mono ?_
  rintro e w4 ⟨E, r, rfl, hown, hb⟩
  rw [ofN_len] at hown
  try rw [ofN_len]
  rw [HR.out] at hown
  try rw [HR.out]
  replace ht := below_then ht hb ht.size
  replace hc := hc.below hb
  replace hs := hs.below hb
  replace hB2 := hB2.below hb
  clear hb
  refine hK.out _ _ (boxes2_of hc hs) (fun hHeld => ?_)
  clear hK K
  try simp only [Act.put, List.getElem_toArray, List.getElem_cons_succ, List.getElem_cons_zero, List.setIfInBounds_toArray, List.set_cons_succ, List.set_cons_zero]
  refine wpAnyH_take (i := 4) (v := ?_) rfl (by kernel_rfl) (by kernel_rfl) (by kernel_rfl) (fun _ _ _ h => h) (Or.inl ⟨rfl, ?_⟩) hHeld ?_
  rotate_left
  · intro w' hS; obtain ⟨s0, s1, s2, s3⟩ := hS; go_simp <;> with_reducible rfl
  simp only [Act.put, List.getElem_toArray, List.getElem_cons_succ, List.getElem_cons_zero, List.setIfInBounds_toArray, List.set_cons_succ, List.set_cons_zero]
  refine wpAnyH_done (by kernel_rfl) ?_ _
  clear hHeld
  clear hc hs hB2
  have HHO := Lib.hid (holds_of_own hown)
  have HT := Lib.hid ht
  have hws := ht.size
  clear hown ht
  go_wp2
  go_loopw [6, 25] (fun v i wr => ∃ (y : Nat) (D : Option Addr) (c : Nat) (acc : List RowV), y ≤ R.length ∧ i = .int .i64 y ∧ v = .slice D acc.length c ∧ acc.length = y ∧ rowNums acc = (R.take y).map listOf ∧ Heads wr w4.heap.size D c acc ∧ Below w4.heap.size w4 wr) (fun _ i _ => R.length - (intOf i).toNat)
  case atStart => exact ⟨0, none, 0, [], Nat.zero_le _, rfl, rfl, rfl, rfl, Heads.nil _ _, Below.refl _ _⟩
  case round =>
    obtain ⟨y, D, c, acc, hy0, rfl, rfl, hla, hra, hh, hb⟩ := hrel
    by_cases hlt : y < R.length
    · have hlti : (y : Int) < (R.length : Int) := by omega
      obtain ⟨b1, o1, rfl, hbl1, hcell⟩ := (HHO.out.below hb).look (k := y) (by rw [nums_len, ofN_len]; exact hlt)
      have hcell' : wr.cell? ⟨b1, o1 + y, none⟩ = some (.int .i64 ((R[y] : Nat) : Int)) := by simpa [nums, ofN] using hcell
      have hg := HMM.out _ (List.getElem_mem hlt)
      have hnx : (R.take (y + 1)).map listOf = (R.take y).map listOf ++ [listOf R[y]] := by rw [List.take_succ_eq_append_getElem hlt, List.map_append, List.map_cons, List.map_nil]
      generalize R[y] = g at hcell' hg hnx
      have hgl := listOf_le g
      have HRA := Lib.hid hra
      have HNX := Lib.hid hnx
      have HH := Lib.hid hh
      have HB := Lib.hid hb
      have HLA := Lib.hid hla
      have hbs : w4.heap.size ≤ wr.heap.size := hb.size
      have hacc : acc.length ≤ 255 := by omega
      clear hra hnx hh hb hcell hla
      go_wp2_with fail
      refine (cuList_any g _ hg).mono ?_
      rintro e w3 ⟨A2, q2, rfl, hown2, hb2⟩
      have hbs2 : wr.heap.size ≤ w3.heap.size := hb2.size
      have HOWN := Lib.hid ((HH.out.below hb2).alloc (.cells #[.slice A2 (listOf g).length q2] 40)).1
      have HF := Lib.hid (Fresh.of_own hown2 (Nat.le_refl _))
      have HB2 := Lib.hid hb2
      have HMAX := Lib.hid (show acc.length + 1 ≤ maxLen by unfold maxLen; omega)
      have HBYT := Lib.hid (show (acc.length + 1) * 24 ≤ 140737488355328 by omega)
      have HBASE := Lib.hid (show w4.heap.size ≤ (w3.alloc (.cells #[.slice A2 (listOf g).length q2] 40)).heap.size by simp; omega)
      clear hown2 hb2
      go_wp2_with (at_builtin; refine wpList_append_lies _ rfl (.tmp 29) (.tmp 32) 28 rfl w4.heap.size 40 i0 (.slice none 0 0) 1 24 Try.underlying28 HI.out HZ0.out HZ1.out HZ2.out rfl (by decide) (.slice D acc.length c) acc.length (rowVals acc) rfl HOWN.out ⟨w3.heap.size, 0, none⟩ 1 1 [.slice A2 (listOf g).length q2] rfl rfl (cell_one_new _ _ _) (by simp [Value.oneCell']) (by decide) HMAX.out HBYT.out HBASE.out (w3.heap.size + 1) (by simp) ?_; intro g1 cap w5 hown4 hg4 hat hlt4)
      obtain ⟨A3, q3, hv3, hf3⟩ := HF.out
      simp only [Value.slice.injEq, true_and] at hv3
      obtain ⟨rfl, rfl⟩ := hv3
      have HP2 := Lib.hid (Heads.push (r := ⟨A2, (listOf g).length, q2, listOf g⟩) HH.out hbs HB2.out hf3 rfl (by show (listOf g).length ≤ _; omega) hown4 hg4 hat)
      have HBN := Lib.hid (((below_then HB.out HB2.out hbs).alloc (by omega) (.cells #[.slice A2 (listOf g).length q2] 40)).grown hg4 HBASE.out (fun kk hkk => (HOWN.out.lt kk hkk).1))
      clear hown4 hg4 hat hlt4 hf3
      go_roundw
      case rel => exact ⟨y + 1, some ⟨g1, 0, none⟩, cap, acc ++ [⟨A2, (listOf g).length, q2, listOf g⟩], by omega, by go_num, by simp, by rw [List.length_append, HLA.out]; rfl, by rw [HNX.out, show rowNums (acc ++ [⟨A2, (listOf g).length, q2, listOf g⟩]) = rowNums acc ++ [listOf g] by simp [rowNums], HRA.out], HP2.out, HBN.out⟩
      case measure => simp [intOf]; omega
    · obtain rfl : y = R.length := by omega
      have HH := Lib.hid (hh.raise hws)
      have HRA : Hid (rowNums acc = R.map listOf) := by show _ = _; rw [hra, List.take_length]
      have HBN := Lib.hid (below_then HT.out hb hws)
      clear hh hra hb hla
      go_wp2
      go_ret2
      exact ⟨D, acc.length, c, acc, rfl, HRA.out, rfl, HH.out.free, HBN.out⟩
end Go.Proofs.Ytjadoehdhbilcaa

namespace Go.Proofs.Ytjadoehdhbilcaa
open Go.RowKit

/-- Heads of the call's own over rows that lie spread below them. -/
theorem heads_of_spread {w4 wr : World} {lo c : Nat} {A D : Option Addr} {rs : List RowV} (hs : Spread w4 lo A rs) (hb : Below w4.heap.size w4 wr) (ho : wr.ownsRow w4.heap.size 40 1 (.slice D rs.length c) rs.length (rowVals rs)) (hl : lo ≤ w4.heap.size) : Heads wr lo D c rs := by
  obtain ⟨ps, h2, h3, -⟩ := hs
  refine ⟨own_lower ho hl, ps, h2.below hb, fun p hp => ⟨(h3 p hp).1, Nat.le_trans (h3 p hp).2 hb.size⟩, fun a ha p hp => .inr ?_⟩
  subst ha
  exact Nat.le_trans (h3 p hp).2 (ho.lt a.block rfl).1

set_option maxHeartbeats 12800000 in
set_option maxRecDepth 100000 in
set_option linter.unusedSimpArgs false in
theorem implRowsOf_any (a b : Int) (B : Option Addr) (m d0 : Nat) (bs : List Bool) (t : Bool) (w : World) (hB : Holds w B (bits bs)) (hy : bs.length = m) (hm : m ≤ 9223372036854775807) :
    Calls Try.prog 15 #[.agg #[.int .i64 a, .int .i64 b], .agg #[.slice B m d0, .bool t]] w (BackPost (rowsLs a b bs t) (calmIn a b bs t) w) := by
  have HY := Lib.hid hy
  have hB2 := (hB.alloc (.cells #[.int .i64 a, .int .i64 b] 31)).alloc (.cells #[.slice B m d0, .bool t] 33)
  have hc := (Whole.fresh w 31 #[.int .i64 a, .int .i64 b]).alloc (.cells #[.slice B m d0, .bool t] 33)
  have ht := below2 w (.cells #[.int .i64 a, .int .i64 b] 31) (.cells #[.slice B m d0, .bool t] 33)
  clear hy hB
  have hcp := calmPlaceOf_any a b B m d0 bs t _ hB2 HY.out hm
  go_enter Try.func15, Try.ntmps15
  go_wp2_with fail
  refine hcp.mono ?_
  clear hcp
  rintro e w1 ⟨⟨hp1, rfl⟩ | ⟨hp1, rfl⟩, hb⟩
  all_goals
    replace ht := below_then ht hb (by simp; omega)
    replace hc := hc.below hb
    have hlc := hc.lt
    clear hb hB2
  rotate_left
  · have hcn := calmIn_no hp1
    have HF : Hid (rowsLs a b bs t = [] ∧ calmIn a b bs t = false) := ⟨by simp [rowsLs, hcn], hcn⟩
    clear hp1 hcn
    unfold placeCells
    replace ht := ht.alloc ht.size (.cells #[.bool false, .bool false, .bool false, .bool false, .bool false, .bool false, .bool false, .bool false, .bool false] 68)
    replace hc := hc.alloc (.cells #[.bool false, .bool false, .bool false, .bool false, .bool false, .bool false, .bool false, .bool false, .bool false] 68)
    go_upto_region 2 with fail
    generalize w1.alloc (.cells #[.bool false, .bool false, .bool false, .bool false, .bool false, .bool false, .bool false, .bool false, .bool false] 68) = W1 at hc ht ⊢
    clear hc
    go_wp2
    go_ret2
    rw [HF.out.1, HF.out.2]
    exact BackPost.no ht
  obtain ⟨k, rfl, hk1, hk, hb1, hb4, -, -, hl⟩ := place_co hp1
  obtain ⟨q, rfl⟩ : ∃ q : Nat, b = q := ⟨b.toNat, by omega⟩
  have hq4 : q ≤ 4 := by omega
  have HBS := Lib.hid hl
  obtain ⟨f, hf⟩ : ∃ f : Nat → Bool, f = fun i => bs.getD i false := ⟨_, rfl⟩
  have HPL : Hid (placeCells bs t = place9 f t) := by show _ = _; rw [place_nine9, hf]
  have hp := Whole.fresh w1 68 (place9 f t)
  replace ht := ht.alloc ht.size (.cells (place9 f t) 68)
  replace hc := hc.alloc (.cells (place9 f t) 68)
  rw [HPL.out]
  clear hf
  cases h2 : calmIn k q bs t
  · have HF : Hid (rowsLs k q bs t = [] ∧ calmIn k q bs t = false) := ⟨by simp [rowsLs, h2], h2⟩
    clear hp1 h2 hl hp
    unfold place9 at hc ht
    unfold place9
    go_upto_region 2 with fail
    generalize w1.alloc (.cells #[.bool (f 0), .bool (f 1), .bool (f 2), .bool (f 3), .bool (f 4), .bool (f 5), .bool (f 6), .bool (f 7), .bool t] 68) = W1 at hc ht ⊢
    clear hc
    go_wp2
    go_ret2
    rw [HF.out.1, HF.out.2]
    exact BackPost.no ht
  have HF : Hid (rowsLs k q bs t = rowsIn k q bs t ∧ calmIn k q bs t = true) := ⟨by simp [rowsLs, h2], h2⟩
  obtain ⟨gP, hgP⟩ : ∃ g : Nat, g = w1.heap.size := ⟨_, rfl⟩
  rw [← hgP] at hp
  obtain ⟨i0, hi, hz0, hz1, hz2⟩ := info_parts info_row
  have HI := Lib.hid hi
  have HZ0 := Lib.hid hz0
  have HZ1 := Lib.hid hz1
  have HZ2 := Lib.hid hz2
  clear hp1 h2 hl hi hz0 hz1 hz2
  unfold place9 at hc hp ht
  unfold place9
  go_upto_region 5 with fail
  rw [← hgP]
  clear hgP
  generalize w1.alloc (.cells #[.bool (f 0), .bool (f 1), .bool (f 2), .bool (f 3), .bool (f 4), .bool (f 5), .bool (f 6), .bool (f 7), .bool t] 68) = W1 at hc hp ht ⊢
  refine wp_region_held_drew (S := (CIs w.heap.size gP k q f t)) (by kernel_rfl) (cis_of hc.drew hp.drew) (fun hHeld => ?_)
  replace ht := ht.drew
  replace hc := hc.drew
  replace hp := hp.drew
  refine wpAnyH_take (i := 0) (v := ?_) rfl (by kernel_rfl) (by kernel_rfl) (by kernel_rfl) (fun _ _ _ h => h) (Or.inl ⟨rfl, ?_⟩) hHeld ?_
  rotate_left
  · intro w' hS; obtain ⟨⟨s0, s1⟩, ⟨a0, a1, a2, a3, a4, a5, a6, a7⟩, a8⟩ := hS; go_simp <;> with_reducible rfl
  simp only [Act.put, List.getElem_toArray, List.getElem_cons_succ, List.getElem_cons_zero, List.setIfInBounds_toArray, List.set_cons_succ, List.set_cons_zero]
  refine wpAnyH_take (i := 3) (v := ?_) rfl (by kernel_rfl) (by kernel_rfl) (by kernel_rfl) (fun _ _ _ h => h) (Or.inl ⟨rfl, ?_⟩) hHeld ?_
  rotate_left
  · intro w' hS; obtain ⟨⟨s0, s1⟩, ⟨a0, a1, a2, a3, a4, a5, a6, a7⟩, a8⟩ := hS; go_simp <;> with_reducible rfl
  simp only [Act.put, List.getElem_toArray, List.getElem_cons_succ, List.getElem_cons_zero, List.setIfInBounds_toArray, List.set_cons_succ, List.set_cons_zero]
  refine wpAnyH_take (i := 6) (v := ?_) rfl (by kernel_rfl) (by kernel_rfl) (by kernel_rfl) (fun _ _ _ h => h) (Or.inl ⟨rfl, ?_⟩) hHeld ?_
  rotate_left
  · intro w' hS; obtain ⟨⟨s0, s1⟩, ⟨a0, a1, a2, a3, a4, a5, a6, a7⟩, a8⟩ := hS; go_simp <;> with_reducible rfl
  simp only [Act.put, List.getElem_toArray, List.getElem_cons_succ, List.getElem_cons_zero, List.setIfInBounds_toArray, List.set_cons_succ, List.set_cons_zero]
  refine wpAnyH_ready (rs := [1]) (by kernel_rfl) (by simp) (AllReadyH.cons rfl (fun K hK => ?_) AllReadyH.nil)
  go_simp
  refine (companyRiver_any k q _ hk hq4).mono ?_
  rintro e w2 ⟨gG, gC, g1, g3, g4, g, A, c, rfl, hF, hb⟩
  replace ht := below_then ht hb ht.size
  replace hc := hc.below hb
  replace hp := hp.below hb
  clear hb
  have HT2 := Lib.hid ht
  have hfd : ∀ W : World, (Instr.field 74 (.agg (riverCells k gG gC)) 2).run Try.prog W = .ok (rowsFnV gG gC) W := fun _ => by kernel_rfl
  unfold riverCells rowsFnV at hfd
  unfold riverCells rowsFnV
  refine hK.out _ _ (cis_of hc hp) (fun hHeld => ?_)
  clear hK K
  try simp only [Act.put, List.getElem_toArray, List.getElem_cons_succ, List.getElem_cons_zero, List.setIfInBounds_toArray, List.set_cons_succ, List.set_cons_zero]
  refine wpAnyH_take (i := 2) (v := ?_) rfl (by kernel_rfl) (by kernel_rfl) (by kernel_rfl) (fun _ _ _ h => h) (Or.inl ⟨rfl, ?_⟩) hHeld ?_
  rotate_left
  · intro w' hS; obtain ⟨⟨s0, s1⟩, ⟨a0, a1, a2, a3, a4, a5, a6, a7⟩, a8⟩ := hS; go_simp <;> with_reducible rfl
  simp only [Act.put, List.getElem_toArray, List.getElem_cons_succ, List.getElem_cons_zero, List.setIfInBounds_toArray, List.set_cons_succ, List.set_cons_zero]
  refine wpAnyH_ready (rs := [4]) (by kernel_rfl) (by simp) (AllReadyH.cons rfl (fun K hK => ?_) AllReadyH.nil)
  go_simp
  have hrf := rowsFn_any k q gG gC g1 g3 g4 g A c bs t _ hk HBS.out hF
  rw [HPL.out] at hrf
  unfold place9 at hrf
  refine hrf.mono ?_
  clear hrf
  rintro e w4 ⟨A1, c1, rs, rfl, hrn, hM, hb⟩
  have hw24 := hb.size
  replace ht := below_then ht hb ht.size
  replace hc := hc.below hb
  replace hp := hp.below hb
  clear hb
  refine hK.out _ _ (cis_of hc hp) (fun hHeld => ?_)
  clear hK K
  try simp only [Act.put, List.getElem_toArray, List.getElem_cons_succ, List.getElem_cons_zero, List.setIfInBounds_toArray, List.set_cons_succ, List.set_cons_zero]
  refine wpAnyH_take (i := 5) (v := ?_) rfl (by kernel_rfl) (by kernel_rfl) (by kernel_rfl) (fun _ _ _ h => h) (Or.inl ⟨rfl, ?_⟩) hHeld ?_
  rotate_left
  · intro w' hS; obtain ⟨⟨s0, s1⟩, ⟨a0, a1, a2, a3, a4, a5, a6, a7⟩, a8⟩ := hS; go_simp <;> with_reducible rfl
  simp only [Act.put, List.getElem_toArray, List.getElem_cons_succ, List.getElem_cons_zero, List.setIfInBounds_toArray, List.set_cons_succ, List.set_cons_zero]
  refine wpAnyH_done (by kernel_rfl) ?_ _
  clear hHeld
  clear hc hp hF
  have HM := Lib.hid hM
  have HRN := Lib.hid hrn
  have hrl : rs.length ≤ 255 := by have h1 := congrArg List.length hrn; have h2 := among_len k bs t (groupsOf k q); have h3 := groups_small (q := q) hk; rw [rowNums_len] at h1; rw [rowsIn] at h1; omega
  have HT := Lib.hid ht
  have hws := ht.size
  have HWS : Hid (w.heap.size ≤ w2.heap.size) := HT2.out.size
  clear hM hrn ht
  go_wp2
  go_loopw [8, 25] (fun v i wr => ∃ (j : Nat) (D : Option Addr) (c : Nat), j ≤ rs.length ∧ i = .int .i64 j ∧ v = .slice D j c ∧ wr.ownsRow w4.heap.size 40 1 (.slice D j c) j (rowVals (rs.take j)) ∧ Below w4.heap.size w4 wr) (fun _ i _ => rs.length - (intOf i).toNat)
  case atStart => exact ⟨0, none, 0, Nat.zero_le _, rfl, rfl, World.ownsRow_nil _ _ _ _, Below.refl _ _⟩
  case round =>
    obtain ⟨j, D, c, hj, rfl, rfl, hown, hb⟩ := hrel
    by_cases hlt : j < rs.length
    · have hd : decide ((j : Int) < (rs.length : Int)) = true := by simp; omega
      obtain ⟨gm, rfl, hgl, a0, a1, a2, a3, a4, a5, a6, a7, a8, a9⟩ := moves_row (HM.out.below hb) hlt
      obtain ⟨f', hf'⟩ : ∃ f' : Nat → Bool, f' = fun i => (flipped bs rs[j].xs).getD i false := ⟨_, rfl⟩
      replace a1 : wr.cell? ⟨gm, j * 10 + 1, none⟩ = some (.bool (f' 0)) := by rw [a1, hf']
      replace a2 : wr.cell? ⟨gm, j * 10 + 2, none⟩ = some (.bool (f' 1)) := by rw [a2, hf']
      replace a3 : wr.cell? ⟨gm, j * 10 + 3, none⟩ = some (.bool (f' 2)) := by rw [a3, hf']
      replace a4 : wr.cell? ⟨gm, j * 10 + 4, none⟩ = some (.bool (f' 3)) := by rw [a4, hf']
      replace a5 : wr.cell? ⟨gm, j * 10 + 5, none⟩ = some (.bool (f' 4)) := by rw [a5, hf']
      replace a6 : wr.cell? ⟨gm, j * 10 + 6, none⟩ = some (.bool (f' 5)) := by rw [a6, hf']
      replace a7 : wr.cell? ⟨gm, j * 10 + 7, none⟩ = some (.bool (f' 6)) := by rw [a7, hf']
      replace a8 : wr.cell? ⟨gm, j * 10 + 8, none⟩ = some (.bool (f' 7)) := by rw [a8, hf']
      have hnx : rowVals (rs.take (j + 1)) = rowVals (rs.take j) ++ [rs[j].val] := by
        unfold rowVals
        rw [List.take_succ_eq_append_getElem hlt, List.map_append, List.map_cons, List.map_nil]
      have HNX := Lib.hid hnx
      clear hf' hnx
      generalize rs[j] = r at a0 HNX
      obtain ⟨rA, rn, rc, rx⟩ := r
      unfold RowV.val at a0 HNX
      simp only at a0 HNX
      have hbs := hb.size
      obtain ⟨X, hX⟩ : ∃ X : Obj, X = (.cells #[.slice rA rn rc, .bool (f' 0), .bool (f' 1), .bool (f' 2), .bool (f' 3), .bool (f' 4), .bool (f' 5), .bool (f' 6), .bool (f' 7), .bool (!t)] 77) := ⟨_, rfl⟩
      have HOWN := Lib.hid ((own_keep hown (below1 wr X)).alloc (.cells #[.slice rA rn rc] 40))
      have HB := Lib.hid (hb.alloc hbs X)
      have HMAX := Lib.hid (show j + 1 ≤ maxLen by unfold maxLen; omega)
      have HBYT := Lib.hid (show (j + 1) * 24 ≤ 140737488355328 by omega)
      have HBASE := Lib.hid (show w4.heap.size ≤ ((wr.alloc X).alloc (.cells #[.slice rA rn rc] 40)).heap.size by simp; omega)
      have HB2 := Lib.hid (HB.out.alloc (by simp; omega) (.cells #[.slice rA rn rc] 40))
      have hcn := cell_one_new (wr.alloc X) (.slice rA rn rc) 40
      rw [World.size_alloc] at hcn
      have HCN := Lib.hid hcn
      clear hcn
      subst hX
      clear hown hb
      go_wp2_with (at_builtin; refine wpList_append_lies _ rfl (.tmp 29) (.tmp 32) 28 rfl w4.heap.size 40 i0 (.slice none 0 0) 1 24 Try.underlying28 HI.out HZ0.out HZ1.out HZ2.out rfl (by decide) (.slice D j c) j (rowVals (rs.take j)) rfl HOWN.out ⟨wr.heap.size + 1, 0, none⟩ 1 1 [.slice rA rn rc] rfl rfl HCN.out (by simp [Value.oneCell']) (by decide) HMAX.out HBYT.out HBASE.out (wr.heap.size + 1 + 1) (by simp) ?_; intro g1 cap w5 hown4 hg4 hat hlt4)
      have HBN := Lib.hid (HB2.out.grown hg4 HBASE.out (fun kk hkk => (HOWN.out.lt kk hkk).1))
      have HO4 := Lib.hid hown4
      clear hown4 hg4 hat hlt4 a0 a1 a2 a3 a4 a5 a6 a7 a8 a9
      go_roundw
      case rel => exact ⟨j + 1, some ⟨g1, 0, none⟩, cap, by omega, by go_num, rfl, by rw [HNX.out]; exact HO4.out, HBN.out⟩
      case measure => simp [intOf]; omega
    · obtain rfl : j = rs.length := by omega
      have hd : decide ((rs.length : Int) < (rs.length : Int)) = false := by simp
      rw [List.take_length] at hown
      have HH := Lib.hid ((heads_of_spread HM.out.2 hb hown hw24).raise HWS.out)
      have HBN := Lib.hid (below_then HT.out hb hws)
      clear hown hb
      go_wp2
      go_ret2
      rw [HF.out.1, HF.out.2]
      exact ⟨D, rs.length, c, rs, rfl, HRN.out, rfl, HH.out.free, HBN.out⟩
end Go.Proofs.Ytjadoehdhbilcaa

namespace Go.Proofs.Ytjadoehdhbilcaa
open Go.RowKit

/-- A slice of the call's own whose first element may lie anywhere in its block. -/
def Win (w : World) (base : Nat) (e : TypeId) (size : Nat) (v : Value) (n : Nat) (xs : List Value) : Prop :=
  xs.length = n * size ∧ ∃ g o cap cur, v = .slice (some ⟨g, o, none⟩) n cap ∧ base ≤ g ∧ w.heap[g]? = some (.cells cur e (0, 0)) ∧ n ≤ cap ∧ cap ≤ maxLen ∧ o + cap * size ≤ cur.size ∧ (cur.toList.drop o).take (n * size) = xs

section
variable {w w' : World} {base n size : Nat} {e : TypeId} {v : Value} {xs : List Value}
theorem Win.below (h : Win w base e size v n xs) (hb : Below w.heap.size w w') : Win w' base e size v n xs := by
  obtain ⟨h1, g, o, cap, cur, h2, h3, h4, r⟩ := h
  exact ⟨h1, g, o, cap, cur, h2, h3, (hb.block g (Array.getElem?_eq_some_iff.1 h4).1).trans h4, r⟩
theorem Win.kept {row : Option Nat} (h : Win w base e size v n xs) (hg : w.grownBy w' row) (hne : v.ownBlock ≠ row) : Win w' base e size v n xs := by
  obtain ⟨h1, g, o, cap, cur, rfl, h3, h4, r⟩ := h
  exact ⟨h1, g, o, cap, cur, rfl, h3, (hg.block g (Array.getElem?_eq_some_iff.1 h4).1 hne).trans h4, r⟩
theorem Win.alloc (h : Win w base e size v n xs) (o : Obj) : Win (w.alloc o) base e size v n xs := h.below (below1 w o)
theorem Win.drew (h : Win w base e size v n xs) : Win w.drew base e size v n xs := h
theorem Win.off {b o : Nat} {u : Value} (h : Win w base e size v n xs) (hb : b < base) : Win (w.setCell ⟨b, o, none⟩ u) base e size v n xs := by
  obtain ⟨h1, g, o', cap, cur, h2, h3, h4, r⟩ := h
  exact ⟨h1, g, o', cap, cur, h2, h3, (Below.heap_setCell w ⟨b, o, none⟩ u g (by show g ≠ b; omega)).trans h4, r⟩
theorem Win.lt (h : Win w base e size v n xs) : ∀ k, v.ownBlock = some k → base ≤ k ∧ k < w.heap.size := by
  obtain ⟨h1, g, o, cap, cur, rfl, h3, h4, r⟩ := h
  intro k hk
  obtain rfl : g = k := by simpa [Value.ownBlock] using hk
  exact ⟨h3, (Array.getElem?_eq_some_iff.1 h4).1⟩
theorem Win.cellAt (h : Win w base e size v n xs) : ∃ g o cap, v = .slice (some ⟨g, o, none⟩) n cap ∧ base ≤ g ∧ g < w.heap.size ∧ n ≤ cap ∧ cap ≤ maxLen ∧ ∀ j u, xs[j]? = some u → w.cell? ⟨g, o + j, none⟩ = some u := by
  obtain ⟨h1, g, o, cap, cur, rfl, h3, h4, h5, h6, h7, h8⟩ := h
  refine ⟨g, o, cap, rfl, h3, (Array.getElem?_eq_some_iff.1 h4).1, h5, h6, fun j u hu => ?_⟩
  rw [← h8, List.getElem?_take] at hu
  split at hu
  · rw [List.getElem?_drop] at hu
    simp only [World.cell?, h4]
    simpa using hu
  · cases hu
/-- The first element is cut off. -/
def cutV (g o n cap size : Nat) : Value := .slice (some (if cap = 1 then ⟨g, o, none⟩ else ⟨g, o + size, none⟩)) n (cap - 1)
theorem Win.cut {g o cap : Nat} {x ys : List Value} (h : Win w base e size (.slice (some ⟨g, o, none⟩) (n + 1) cap) (n + 1) (x ++ ys)) (hx : x.length = size) : Win w base e size (cutV g o n cap size) n ys := by
  obtain ⟨h1, g', o', cap', cur, hv, h3, h4, h5, h6, h7, h8⟩ := h
  obtain ⟨⟨rfl, rfl⟩, rfl⟩ : (g = g' ∧ o = o') ∧ cap = cap' := by simpa using hv
  have hl : ys.length = n * size := by rw [List.length_append, hx, Nat.add_mul] at h1; omega
  have hys : (cur.toList.drop (o + size)).take (n * size) = ys := by
    have h9 := congrArg (List.drop size) h8
    rw [List.drop_left' hx, List.drop_take, List.drop_drop] at h9
    rw [← h9, show (n + 1) * size - size = n * size by rw [Nat.add_mul]; omega]
  by_cases hc : cap = 1
  · subst hc
    obtain rfl : n = 0 := by omega
    obtain rfl : ys = [] := List.eq_nil_of_length_eq_zero (by omega)
    exact ⟨by simp, g, o, 0, cur, by simp [cutV], h3, h4, Nat.le_refl _, by unfold maxLen; omega, by omega, by simp⟩
  · have e1 : (cap - 1) * size + size = cap * size := by
      obtain ⟨c, rfl⟩ : ∃ c, cap = c + 1 := ⟨cap - 1, by omega⟩
      rw [Nat.add_sub_cancel, Nat.add_mul]; omega
    exact ⟨hl, g, o + size, cap - 1, cur, by simp [cutV, hc], h3, h4, by omega, by omega, by omega, hys⟩
end
theorem Win.made (w : World) (base : Nat) (e : TypeId) (cs : Array Value) (hb : base ≤ w.heap.size) : Win (w.alloc (.cells cs e)) base e cs.size (.slice (some ⟨w.heap.size, 0, none⟩) 1 1) 1 cs.toList :=
  ⟨by simp, w.heap.size, 0, 1, cs, rfl, hb, Whole.fresh w e cs, Nat.le_refl _, by unfold maxLen; omega, by simp, by rw [Nat.one_mul, List.drop_zero, List.take_of_length_le (by simp)]⟩

theorem add_at (g o j : Nat) : (⟨g, o, none⟩ : Addr).add j = ⟨g, o + j, none⟩ := by unfold Addr.add; split <;> simp_all
theorem add_at0 (g o : Nat) (spot : Option Nat) (h : spot = none) (j : Nat) : (⟨g, o, spot⟩ : Addr).add j = ⟨g, o + j, none⟩ := by subst h; exact add_at g o j

theorem run_append_win {P : Program} (w : World) (base : Nat) (t ty e : TypeId) (i : TypeInfo) (z : Value) (size bytes : Nat) (ht : P.underlying t = some (.slice e)) (hi : P.info? e = some i) (hz : i.zero = some z)
    (hsize : i.size = size) (hby : i.bytes = bytes) (hzs : z.cells.size = size) (v : Value) (n : Nat) (xs : List Value) (hown : Win w base e size v n xs)
    (a : Addr) (m c : Nat) (news : List Value) (hl : news.length = m * size) (hnews : ∀ j u, news[j]? = some u → w.cell? (a.add j) = some u) (h1 : ∀ u ∈ news, u.oneCell' = true)
    (h63 : n + m ≤ maxLen) (hbytes : (n + m) * bytes ≤ 140737488355328) (hbase : base ≤ w.heap.size) :
    ∃ v' w', (Builtin.append_ #[t, t] ty #[v, .slice (some a) m c]).run P w = .ok v' w' ∧ Win w' base e size v' (n + m) (xs ++ news) ∧ w.grownBy w' v.ownBlock ∧ (v'.ownBlock = v.ownBlock ∨ v'.ownBlock = some w.heap.size) := by
  subst hsize hby
  have hlt : n + m ≤ 9223372036854775807 := by simp only [maxLen] at h63; omega
  have hlen : (xs ++ news).length = (n + m) * i.size := by rw [List.length_append, hown.1, hl, Nat.add_mul]
  obtain ⟨g, o, cap, hv, hbg, hgl, -, -, hcell⟩ := hown.cellAt
  obtain ⟨hxl, g', o', cap', cur, hv', -, hg, hnc, hcm, hcs, htake⟩ := hown
  subst hv
  obtain ⟨⟨rfl, rfl⟩, rfl⟩ : (g = g' ∧ o = o') ∧ cap = cap' := by simpa using hv'
  by_cases hroom : n + m ≤ cap
  · have hm2 : (n + m) * i.size ≤ cap * i.size := Nat.mul_le_mul_right _ hroom
    rw [Nat.add_mul] at hm2
    have hfit : o + n * i.size + 0 + news.length ≤ cur.size := by rw [hl]; omega
    have hf := run_firstCells_some (P := P) w i.size m a m c news hl hnews
    have hst := run_storeCells_at P g (o + n * i.size) e news 0 cur w hg hfit h1
    rw [Nat.add_zero] at hst
    refine ⟨.slice (some ⟨g, o, none⟩) (n + m) cap, w.setRow g (cur.toList.take (o + n * i.size) ++ news ++ cur.toList.drop (o + n * i.size + news.length)).toArray, ?_, ⟨hlen, g, o, cap, _, rfl, hbg, setRow_heap w g cur _ e _ hg, hroom, hcm, ?_, ?_⟩, ⟨rfl, rfl, rfl, by simp, fun k _ hk => setRow_other w g k _ (fun e => hk (by simp [Value.ownBlock, e]))⟩, .inl rfl⟩
    · simp [Builtin.append_, run_underlying ht, sizeOf, typeInfo, hi, Builtin.lenOf, hroom, hf, add_at, hst]
    · simp only [List.size_toArray, List.length_append, List.length_take, List.length_drop, Array.length_toList]
      omega
    · have hcl : o + n * i.size ≤ cur.toList.length := by simp; omega
      have e1 : cur.toList.take (o + n * i.size) = cur.toList.take o ++ xs := by rw [List.take_add, htake]
      rw [e1, List.append_assoc, List.append_assoc, List.drop_append_of_le_length (by simp; omega), List.drop_of_length_le (by simp; omega), List.nil_append, ← List.append_assoc, ← hlen]
      exact List.take_left
  · have holds : ∀ j u, xs[j]? = some u → w.cell? ((⟨g, o, none⟩ : Addr).add j) = some u := fun j u hu => by rw [add_at]; exact hcell j u hu
    have hr := run_append_grow (P := P) w t ty e i z ht hi hz ⟨g, o, none⟩ n cap xs hxl holds a m c news hl hnews (by omega) (by omega) (growslice_fits (by omega) hbytes)
    have hge := grownCap_ge w (n + m) cap e
    have hcm2 : grownCap w (n + m) cap e ≤ maxLen := grownCap_le_maxLen w (n + m) cap e h63
    refine ⟨_, _, hr, ⟨hlen, w.heap.size, 0, _, _, rfl, hbase, heap_alloc_new w.drew _, hge, hcm2, ?_, ?_⟩, ⟨rfl, rfl, rfl, by simp, fun k hk _ => Below.heap_alloc w.drew _ k hk⟩, .inr rfl⟩
    · have e2 : (n + m) * i.size + (grownCap w (n + m) cap e - (n + m)) * i.size = grownCap w (n + m) cap e * i.size := by rw [← Nat.add_mul]; congr 1; omega
      simp only [Array.size_append, List.size_toArray, size_zeroCells, hzs, hxl, hl, Nat.zero_add]
      rw [Nat.add_mul] at e2
      omega
    · simp only [Array.toList_append, List.append_assoc, List.drop_zero]
      rw [← List.append_assoc, ← hlen]
      exact List.take_left

theorem wpList_append_win {P : Program} (w : World) {ops : Array Oper} {rest : List Oper} {o : Oper} {a : Act} {Q : Exit → Act → World → Prop} (hgd : o.guard = none) (s x : Operand) (t : TypeId)
    (ho : o.op = .call { callee := .builtin .append, args := #[s, x], argTypes := #[t, t] })
    (base : Nat) (e : TypeId) (i : TypeInfo) (z : Value) (size bytes : Nat) (ht : P.underlying t = some (.slice e)) (hi : P.info? e = some i) (hz : i.zero = some z)
    (hsize : i.size = size) (hby : i.bytes = bytes) (hzs : z.cells.size = size) (v : Value) (n : Nat) (xs : List Value) (hs : a.eval s = v) (hown : Win w base e size v n xs)
    (ad : Addr) (m c : Nat) (news : List Value) (hx : a.eval x = .slice (some ad) m c) (hl : news.length = m * size) (hnews : ∀ j u, news[j]? = some u → w.cell? (ad.add j) = some u) (h1 : ∀ u ∈ news, u.oneCell' = true)
    (h63 : n + m ≤ maxLen) (hbytes : (n + m) * bytes ≤ 140737488355328) (hbase : base ≤ w.heap.size)
    (h : ∀ v' w', Win w' base e size v' (n + m) (xs ++ news) → w.grownBy w' v.ownBlock → (v'.ownBlock = v.ownBlock ∨ v'.ownBlock = some w.heap.size) → wpList P ops Q rest (a.put o.dst v') w') : wpList P ops Q (o :: rest) a w := by
  refine wpList_plain hgd fun K hK => ?_
  obtain ⟨v', w', hr, h2, h3, h4⟩ := run_append_win (P := P) w base t o.type e i z size bytes ht hi hz hsize hby hzs v n xs hown ad m c news hl hnews h1 h63 hbytes hbase
  unfold Oper.wp execOp
  simp only [ho, resolve, invoke, builtin, Sem.run_bind, Sem.run_pure, Result.andThen_ok, List.map_toArray, List.map_cons, List.map_nil, hs, hx, hr]
  exact hK _ _ (h v' w' h2 h3 h4)
theorem run_cut {P : Program} (W : World) (t e : TypeId) (size : Nat) (g o n cap : Nat) (ht : P.underlying t = some (.slice e)) (he : P.elem t = e) (hs : (P.info? e).map (·.size) = some size) (hn : n + 1 ≤ cap) :
    (Instr.sliceAt t (.slice (some ⟨g, o, none⟩) (n + 1) cap) (some (.int .i64 1)) none none).run P W = .ok (cutV g o n cap size) W := by
  cases hq : P.info? e with
  | none => simp [hq] at hs
  | some i =>
    have hi : i.size = size := by simpa [hq] using hs
    subst he
    have h0 := run_slice_l (P := P) W t (some ⟨g, o, none⟩) (n + 1) cap ht .i64 1 (by omega) (by omega)
    rw [run_sliceAt_slice W t _ _ _ _ ht, h0]
    by_cases hc : cap = 1
    · subst hc
      simp [sizeOf, typeInfo, hq, hi, cutV, sliced, Result.andThen]
    · have hc2 : ¬ (1 = cap) := fun h => hc h.symm
      simp [sizeOf, typeInfo, hq, hi, cutV, sliced, Result.andThen, hc, hc2, add_at]
end Go.Proofs.Ytjadoehdhbilcaa
