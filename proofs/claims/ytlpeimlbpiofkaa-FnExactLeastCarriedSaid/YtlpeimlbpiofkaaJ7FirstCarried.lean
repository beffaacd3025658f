/-
  What is proved: the least times between a party's states, told by the states' numbers and told by numbers of eight bits, are the same. Conditions: at most eight people.
  What is proved: plain facts on ways of least time: how great least times are, which trips lead on without losing time, and the way along the first of them. Conditions: each trip takes a time of at least 1.
  What is proved: plain facts on the model's search over the numbers of a company's states: how far each is, in how many ways it is reached, what waits. Conditions: at most four couples.
  What is proved: what the model's search over a company's states keeps, and how it goes over from one world to the next. Conditions: as each says.
  What is proved: the contract of the model's seFar: the least time from a state to each, by their numbers. Conditions: at most eight people, at most eight seats; each person's time is from 1 to 1000.
  What is proved: the least times between a party's states as numbers: they are there, they are the same there and back, and both the model's list and the program's map tell them. Conditions: at most eight people.
  What is proved: the contract of the model's seLeast: the least time of a plan. Conditions: at most eight people, at most eight seats; each person's time is from 1 to 1000.
  What is proved: the contract of the program's leastTimes over places from one place: it tells the least times. Conditions: the rides are rising lists of at most eight people; each takes a time from 1 to 1000000.
  What is proved: contracts of the program's onwardBy, routesBy and routesOf: the least times of a party to the end. Conditions: at most eight people, at most eight seats; each person's time is from 1 to 1000.
-/
import Derived.Deep.LoopGhost
import Derived.Test.YtlpeimlbpiofkaaJ6FirstCarried
set_option linter.unusedSimpArgs false
set_option linter.unusedVariables false
namespace Go.Proofs.Ytlpeimlbpiofkaa
open Go.RowKit

theorem ride_legT {n x y : Nat} {t : Int} {T : List Int → Int} {L : List (List Int)} (hn : n ≤ 8) (hup : ∀ l ∈ L, l ∈ upLists n n) (hx : x / 2 < 2 ^ n) (h : LegE T 4 L x t y) : LegW L T n (unS n x) t (unS n y) ∧ y / 2 < 2 ^ n := by
  obtain ⟨l, hl, rfl, rfl⟩ := h
  have hl' := hl
  rw [← rides_pad hn hup] at hl'
  have hs := (up_steps (mvsW_up hup hl)).1
  have h1 := step_code (t := bitAt x 0) (bitsOf_len (x / 2) n) (fun y hy => by have := mem_steps hs hy; omega : ∀ y ∈ l, 0 ≤ y ∧ y < (n : Int))
  rw [code_of_small hx] at h1
  have hfl : (flipped (bitsOf (x / 2) n) l).length = n := by rw [flipped_len, bitsOf_len]
  obtain ⟨h2, h3⟩ := unS_of (n := n) (a := (flipped (bitsOf (x / 2) n) l, !bitAt x 0)) hfl
  rw [h1]
  exact ⟨⟨bitsOf_len _ _, l, hl', rfl, h2⟩, h3⟩
theorem leg_rideT {n x : Nat} {T : List Int → Int} {L : List (List Int)} {t : Int} {b : List Bool × Bool} (hn : n ≤ 8) (hup : ∀ l ∈ L, l ∈ upLists n n) (hx : x / 2 < 2 ^ n) (h : LegW L T n (unS n x) t b) : ∃ y, LegE T 4 L x t y ∧ unS n y = b ∧ y / 2 < 2 ^ n := by
  obtain ⟨-, l, hl, rfl, rfl⟩ := h
  have hl' : l ∈ mvsW 4 L x := by rw [← rides_pad hn hup]; exact hl
  have hs := (up_steps (mvsW_up hup hl')).1
  have h1 := step_code (t := bitAt x 0) (bitsOf_len (x / 2) n) (fun y hy => by have := mem_steps hs hy; omega : ∀ y ∈ l, 0 ≤ y ∧ y < (n : Int))
  rw [code_of_small hx] at h1
  have hfl : (flipped (bitsOf (x / 2) n) l).length = n := by rw [flipped_len, bitsOf_len]
  obtain ⟨h2, h3⟩ := unS_of (n := n) (a := (flipped (bitsOf (x / 2) n) l, !bitAt x 0)) hfl
  rw [← h1] at h2 h3
  exact ⟨_, ⟨l, hl', rfl, rfl⟩, h2, h3⟩
theorem least_numT {n s0 : Nat} {T : List Int → Int} {L : List (List Int)} {d : List Bool × Bool → Option Int} (hn : n ≤ 8) (hup : ∀ l ∈ L, l ∈ upLists n n) (hs : s0 / 2 < 2 ^ n) (hlen : ∀ a v, d a = some v → a.1.length = n) (h : Least (LegW L T n) (unS n s0) d) : Least (LegE T 4 L) s0 (byNum n d) := by
  refine ⟨byNum_some.2 ⟨hs, h.start⟩, fun x t y a hx he => ?_, fun y b hy => ?_, fun y b hy => h.low _ _ (byNum_some.1 hy).2⟩
  · obtain ⟨h1, h2⟩ := byNum_some.1 hx
    obtain ⟨h3, h4⟩ := ride_legT hn hup h1 he
    obtain ⟨b, hb, hle⟩ := h.edge _ _ _ _ h2 h3
    exact ⟨b, byNum_some.2 ⟨h4, hb⟩, hle⟩
  · obtain ⟨h1, h2⟩ := byNum_some.1 hy
    rcases h.pred _ _ h2 with ⟨e, rfl⟩ | ⟨a, t, v, ha, hl, rfl⟩
    · left
      exact ⟨by rw [← unS_code h1, e, unS_code hs], rfl⟩
    · right
      obtain ⟨h3, h4⟩ := unS_of (hlen a v ha)
      rw [← h3] at hl ha
      obtain ⟨y', he, h5, h6⟩ := leg_rideT hn hup h4 hl
      obtain rfl : y' = y := by rw [← unS_code h6, h5, unS_code h1]
      exact ⟨_, t, v, byNum_some.2 ⟨h4, ha⟩, he, rfl⟩
/-- All lists of people that may cross at once. -/
theorem up_all {n q : Nat} {l : List Int} (h : l ∈ upLists n q) : l ∈ upLists n n := by
  obtain ⟨h1, h2, h3⟩ := mem_up.1 h
  refine mem_up.2 ⟨h1, h2, ?_⟩
  have h4 := steps_len h1 (by omega)
  omega
theorem leg_same (xs : List Int) (n q : Nat) : Leg xs n (q : Int) = LegW (upLists n q) (slowOf xs) n := by
  funext a t b
  refine propext ⟨?_, ?_⟩
  · rintro ⟨h1, l, hl, h2, h3⟩
    obtain ⟨h4, h5⟩ := (trips_mem n q a.1 a.2 l).1 hl
    refine ⟨h1, l, List.mem_filter.2 ⟨h4, ?_⟩, h2, h3⟩
    rw [allAt, List.all_eq_true]
    exact fun k hk => beq_iff_eq.2 (h5 k hk)
  · rintro ⟨h1, l, hl, h2, h3⟩
    obtain ⟨h4, h5⟩ := List.mem_filter.1 hl
    rw [allAt, List.all_eq_true] at h5
    exact ⟨h1, l, (trips_mem n q a.1 a.2 l).2 ⟨h4, fun k hk => beq_iff_eq.1 (h5 k hk)⟩, h2, h3⟩
/-- The least times of a party from a place. -/
noncomputable def partyD (xs : List Int) (n q src : Nat) : Nat → Option Int := leastD (LegE (slowOf xs) 4 (upLists n q)) src
theorem legE_party {xs : List Int} {n q : Nat} (hx : xs.length = n) (hxs : ∀ y ∈ xs, 1 ≤ y) : ∀ x t y, LegE (slowOf xs) 4 (upLists n q) x t y → 1 ≤ t := by
  rintro x t y ⟨l, hl, rfl, -⟩
  have hu := mvsW_mem hl
  obtain ⟨h1, h2, -⟩ := mem_up.1 hu
  obtain ⟨k, r, rfl⟩ := List.exists_cons_of_ne_nil (show l ≠ [] by rintro rfl; simp at h2)
  have hk := mem_steps h1 (show k ∈ k :: r from List.mem_cons_self ..)
  have hkx : k.toNat < xs.length := by omega
  have h3 := hxs _ (List.getElem_mem hkx)
  have h4 := (foldl_max ((k :: r).map fun k => xs.getD k.toNat 0) 0).2 (xs.getD k.toNat 0) (by simp)
  have h5 : xs.getD k.toNat 0 = xs[k.toNat] := by simp [hkx]
  rw [h5] at h4
  exact Int.le_trans h3 h4
/-- What the model's list tells of a state is the least time. -/
theorem party_tie {xs : List Int} {n q : Nat} {bs0 bs : List Bool} {t0 t : Bool} {done : List Bool} {o : List Int} (hx : xs.length = n) (hn : n ≤ 8) (hxs : ∀ y ∈ xs, 1 ≤ y) (h0 : bs0.length = n) (hb : bs.length = n)
    (hL : Least (Leg xs n q) (stateS n (num bs0 t0.toNat)) (settledS n done o)) (hno : ∀ i, i < 2 ^ (n + 1) → done.getD i false = false → o.getD i (-1) < 0) :
    partyD xs n q (codeOf bs0 t0) (codeOf bs t) = if 0 ≤ o.getD (num bs t.toNat) (-1) then some (o.getD (num bs t.toNat) (-1)) else none := by
  have hs : stateS n (num bs0 t0.toNat) = (bs0, t0) := stateS_num (a := (bs0, t0)) h0
  rw [hs, leg_same] at hL
  obtain ⟨u1, u2⟩ := unS_of (n := n) (a := (bs0, t0)) h0
  have hL2 := least_numT hn (fun l hl => up_all hl) u2 (fun a v ha => (settled_iff.1 ha).1) (by rw [u1]; exact hL)
  rw [partyD, leastD_of (legE_party hx hxs) hL2]
  obtain ⟨v1, v2⟩ := unS_of (n := n) (a := (bs, t)) hb
  rw [byNum, if_pos v2, v1]
  have hlt : num bs t.toNat < 2 ^ (n + 1) := by have h := num_lt bs t; rw [hb] at h; exact h
  cases hd : done.getD (num bs t.toNat) false
  · have h1 := hno _ hlt hd
    rw [if_neg (by omega), settledS, if_neg]
    rintro ⟨-, h2⟩
    rw [show numS (bs, t) = num bs t.toNat from rfl, hd] at h2
    cases h2
  · have h2 : settledS n done o (bs, t) = some (o.getD (num bs t.toNat) (-1)) := settled_iff.2 ⟨hb, hd, rfl⟩
    rw [h2, if_pos (hL.low _ _ h2)]
end Go.Proofs.Ytlpeimlbpiofkaa

namespace Go.Proofs.Ytlpeimlbpiofkaa

/-- How many places of a list need less. -/
noncomputable def lessN (dom : List Nat) (M : Nat → Option Int) (v : Int) : Nat := (dom.filter fun z => match M z with | some u => decide (u < v) | none => false).length
theorem filter_more {α : Type} {p q : α → Bool} {x : α} : ∀ (l : List α), (∀ z ∈ l, p z = true → q z = true) → x ∈ l → q x = true → p x = false → (l.filter p).length + 1 ≤ (l.filter q).length
  | [], _, hx, _, _ => by cases hx
  | y :: r, h, hx, hq, hp => by
    have hle : ∀ (l : List α), (∀ z ∈ l, p z = true → q z = true) → (l.filter p).length ≤ (l.filter q).length := by
      intro l
      induction l with
      | nil => intro _; exact Nat.le_refl _
      | cons a t ih =>
        intro h
        have h1 := ih (fun z hz => h z (List.mem_cons_of_mem _ hz))
        cases hpa : p a
        · rw [List.filter_cons_of_neg (by simp [hpa])]
          have := List.length_filter_le q t
          rw [List.filter_cons]
          split <;> simp <;> omega
        · rw [List.filter_cons_of_pos hpa, List.filter_cons_of_pos (h a (List.mem_cons_self ..) hpa)]
          simp; omega
    have hr := fun z hz => h z (List.mem_cons_of_mem _ hz)
    rcases List.mem_cons.1 hx with rfl | hx
    · rw [List.filter_cons_of_neg (by simp [hp]), List.filter_cons_of_pos hq]
      have := hle r hr
      simp; omega
    · have ih := filter_more r hr hx hq hp
      cases hpy : p y
      · rw [List.filter_cons_of_neg (by simp [hpy]), List.filter_cons]
        split <;> simp <;> omega
      · rw [List.filter_cons_of_pos hpy, List.filter_cons_of_pos (h y (List.mem_cons_self ..) hpy)]
        simp; omega
theorem less_more {dom : List Nat} {M : Nat → Option Int} {y : Nat} {a b : Int} (hy : M y = some b) (hd : y ∈ dom) (h : b < a) : lessN dom M b + 1 ≤ lessN dom M a := by
  refine filter_more dom (fun z _ hz => ?_) hd (x := y) ?_ ?_
  · revert hz
    cases M z with
    | none => exact fun h => h
    | some u => intro h2; have := of_decide_eq_true h2; exact decide_eq_true (by omega)
  · rw [hy]; exact decide_eq_true h
  · rw [hy]; exact decide_eq_false (by omega)
theorem less_le (dom : List Nat) (M : Nat → Option Int) (v : Int) : lessN dom M v ≤ dom.length := List.length_filter_le _ _
theorem least_count {E : Nat → Int → Nat → Prop} {src : Nat} {d : Nat → Option Int} {dom : List Nat} {B : Nat} (hdom : ∀ y v, d y = some v → y ∈ dom) (hE : ∀ x t y, E x t y → 1 ≤ t ∧ t ≤ (B : Int)) (h : Least E src d) :
    ∀ (n : Nat) (y : Nat) (v : Int), v ≤ n → d y = some v → v ≤ ((B * lessN dom d v : Nat) : Int) := by
  intro n
  induction n with
  | zero => intro y v hv hy; have := Int.natCast_nonneg (B * lessN dom d v); omega
  | succ n ih =>
    intro y v hv hy
    rcases h.pred y v hy with ⟨-, rfl⟩ | ⟨x, t, a, hx, he, rfl⟩
    · exact Int.natCast_nonneg _
    · obtain ⟨h1, h2⟩ := hE _ _ _ he
      have h3 := ih x a (by omega) hx
      have h4 := less_more (dom := dom) hx (hdom x a hx) (show a < a + t by omega)
      have h5 : B * (lessN dom d a + 1) ≤ B * lessN dom d (a + t) := Nat.mul_le_mul_left _ h4
      rw [Nat.mul_add] at h5
      omega
theorem least_small {E : Nat → Int → Nat → Prop} {src : Nat} {d : Nat → Option Int} {dom : List Nat} {B : Nat} (hdom : ∀ y v, d y = some v → y ∈ dom) (hE : ∀ x t y, E x t y → 1 ≤ t ∧ t ≤ (B : Int)) (h : Least E src d) {y : Nat} {v : Int} (hy : d y = some v) : v ≤ ((B * dom.length : Nat) : Int) := by
  have h1 := least_count hdom hE h v.toNat y v (by omega) hy
  have h2 : B * lessN dom d v ≤ B * dom.length := Nat.mul_le_mul_left _ (less_le _ _ _)
  omega

/-- What is left from a place, 0 where nothing is told. -/
def lf (M : Nat → Option Int) (x : Nat) : Int := (M x).getD 0
/-- The trips that lead on without losing time. -/
noncomputable def bestOf (T : List Int → Int) (L : List (List Int)) (M : Nat → Option Int) (x : Nat) : List (List Int) := L.filter fun l => allAt (bitsOf (x / 2) (2 * 4)) (bitAt x 0) l && decide (T l + lf M (stepC x l) = lf M x)
theorem best_no {T : List Int → Int} {L : List (List Int)} {M : Nat → Option Int} {x j : Nat} (hj : j < L.length) (h : (allAt (bitsOf (x / 2) (2 * 4)) (bitAt x 0) L[j] && decide (T L[j] + lf M (stepC x L[j]) = lf M x)) = false) : bestOf T (L.take (j + 1)) M x = bestOf T (L.take j) M x := by
  rw [List.take_succ_eq_append_getElem hj, bestOf, List.filter_append, bestOf]
  simp only [List.filter_cons, h, Bool.false_eq_true, if_false, List.filter_nil, List.append_nil]
theorem best_yes {T : List Int → Int} {L : List (List Int)} {M : Nat → Option Int} {x j : Nat} (hj : j < L.length) (h : (allAt (bitsOf (x / 2) (2 * 4)) (bitAt x 0) L[j] && decide (T L[j] + lf M (stepC x L[j]) = lf M x)) = true) : bestOf T (L.take (j + 1)) M x = bestOf T (L.take j) M x ++ [L[j]] := by
  rw [List.take_succ_eq_append_getElem hj, bestOf, List.filter_append, bestOf]
  simp only [List.filter_cons, h, if_true, List.filter_nil]
theorem best_len (T : List Int → Int) (L : List (List Int)) (M : Nat → Option Int) (x : Nat) : (bestOf T L M x).length ≤ L.length := List.length_filter_le _ _
theorem best_mem {T : List Int → Int} {L : List (List Int)} {M : Nat → Option Int} {x : Nat} {l : List Int} (h : l ∈ bestOf T L M x) : l ∈ mvsW 4 L x ∧ T l + lf M (stepC x l) = lf M x := by
  obtain ⟨h1, h2⟩ := List.mem_filter.1 h
  obtain ⟨h3, h4⟩ := Bool.and_eq_true_iff.1 h2
  exact ⟨List.mem_filter.2 ⟨h1, h3⟩, of_decide_eq_true h4⟩

/-- The way along the first trips, with so many steps at most. -/
noncomputable def goB (T : List Int → Int) (L : List (List Int)) (M : Nat → Option Int) : Nat → Nat → List (List Int)
  | 0, _ => []
  | f + 1, x => if lf M x ≤ 0 then [] else
    match bestOf T L M x with
    | [] => []
    | l :: _ => l :: goB T L M f (stepC x l)
/-- What is asked of the times that are left, towards e. -/
structure LeftOk (T : List Int → Int) (L : List (List Int)) (e : Nat) (M : Nat → Option Int) : Prop where
  least : Least (LegE T 4 L) e M
  dom : ∀ y v, M y = some v → y ∈ sts 4
  time : ∀ l ∈ L, 1 ≤ T l ∧ T l ≤ 1000000
  up : ∀ l ∈ L, l ∈ upLists (2 * 4) (2 * 4)
theorem LeftOk.leg {T : List Int → Int} {L : List (List Int)} {e : Nat} {M : Nat → Option Int} (h : LeftOk T L e M) : ∀ x t y, LegE T 4 L x t y → 1 ≤ t ∧ t ≤ ((1000000 : Nat) : Int) := by
  rintro x t y ⟨l, hl, rfl, -⟩
  exact h.time l (List.mem_filter.1 hl).1
theorem LeftOk.low {T : List Int → Int} {L : List (List Int)} {e : Nat} {M : Nat → Option Int} (h : LeftOk T L e M) (x : Nat) : 0 ≤ lf M x ∧ lf M x ≤ 512000000 := by
  unfold lf
  cases hx : M x with
  | none => exact ⟨Int.le_refl _, by show (0 : Int) ≤ _; decide⟩
  | some v =>
    have h1 := h.least.low x v hx
    have h2 := least_small h.dom h.leg h.least hx
    rw [show (sts 4).length = 512 from List.length_range] at h2
    refine ⟨h1, ?_⟩
    show v ≤ _
    omega
/-- Where a trip leads, something leads on. -/
theorem LeftOk.step {T : List Int → Int} {L : List (List Int)} {e : Nat} {M : Nat → Option Int} (h : LeftOk T L e M) {x : Nat} {v : Int} {l : List Int} (hx : M x = some v) (hl : l ∈ mvsW 4 L x) : ∃ u, M (stepC x l) = some u := by
  obtain ⟨b, hb, -⟩ := h.least.edge x (T l) (stepC x l) v hx ⟨l, hl, rfl, rfl⟩
  exact ⟨b, hb⟩
theorem step_back {x : Nat} (l : List Int) : stepC (stepC x l) l = x := by
  unfold stepC
  rw [Nat.xor_assoc, Nat.xor_self, Nat.xor_zero]
theorem mvs_back {L : List (List Int)} {x : Nat} {l : List Int} (hup : ∀ l ∈ L, l ∈ upLists (2 * 4) (2 * 4)) (hx : x ∈ sts 4) (hl : l ∈ mvsW 4 L x) : l ∈ mvsW 4 L (stepC x l) := by
  obtain ⟨h1, h2⟩ := List.mem_filter.1 hl
  have hs := (up_steps (hup l h1)).1
  have hb : ∀ y ∈ l, 0 ≤ y ∧ y < ((2 * 4 : Nat) : Int) := fun y hy => by have := mem_steps hs hy; omega
  have h3 := step_code (t := bitAt x 0) (bitsOf_len (x / 2) (2 * 4)) hb
  rw [code_of_small (by have := sts_mem.1 hx; omega)] at h3
  refine List.mem_filter.2 ⟨h1, ?_⟩
  rw [h3, bits_back (by rw [flipped_len, bitsOf_len]), torch_back, allAt, List.all_eq_true]
  intro k hk
  have hk0 := hb k hk
  rw [flipped_get _ l (by rw [bitsOf_len]; omega)]
  rw [allAt, List.all_eq_true] at h2
  have h4 := beq_iff_eq.1 (h2 k hk)
  rw [h4]
  have : has l k.toNat = true := has_iff.2 (by rw [Int.toNat_of_nonneg hk0.1]; exact hk)
  rw [this]
  cases bitAt x 0 <;> rfl
theorem LeftOk.zero {T : List Int → Int} {L : List (List Int)} {e : Nat} {M : Nat → Option Int} (h : LeftOk T L e M) {x : Nat} {v : Int} (hx : M x = some v) : v ≤ 0 ↔ x = e := by
  constructor
  · intro hv
    rcases h.least.pred x v hx with ⟨h1, -⟩ | ⟨z, t, a, hz, he, rfl⟩
    · exact h1
    · have := (h.leg _ _ _ he).1
      have := h.least.low z a hz
      omega
  · rintro rfl
    have := h.least.start
    rw [hx] at this
    have := Option.some.inj this
    omega
/-- Where something is left, a trip leads on without losing time. -/
theorem LeftOk.next {T : List Int → Int} {L : List (List Int)} {e : Nat} {M : Nat → Option Int} (h : LeftOk T L e M) {x : Nat} {v : Int} (hx : M x = some v) (hv : 0 < v) :
    ∃ l r u, bestOf T L M x = l :: r ∧ l ∈ mvsW 4 L x ∧ M (stepC x l) = some u ∧ 0 ≤ u ∧ u < v ∧ T l + u = v := by
  have hne : bestOf T L M x ≠ [] := by
    rcases h.least.pred x v hx with ⟨-, rfl⟩ | ⟨z, t, a, hz, ⟨l, hl, rfl, rfl⟩, rfl⟩
    · omega
    · have h1 := mvs_back h.up (h.dom z a hz) hl
      obtain ⟨h2, h3⟩ := List.mem_filter.1 h1
      refine List.ne_nil_of_mem (a := l) (List.mem_filter.2 ⟨h2, Bool.and_eq_true_iff.2 ⟨h3, decide_eq_true ?_⟩⟩)
      rw [step_back]
      unfold lf
      rw [hx, hz]
      show T l + a = a + T l
      omega
  obtain ⟨l, r, hlr⟩ := List.exists_cons_of_ne_nil hne
  obtain ⟨h1, h2⟩ := best_mem (show l ∈ bestOf T L M x by rw [hlr]; exact List.mem_cons_self ..)
  obtain ⟨u, hu⟩ := h.step hx h1
  have h3 : lf M (stepC x l) = u := by unfold lf; rw [hu]; rfl
  have h4 : lf M x = v := by unfold lf; rw [hx]; rfl
  have h5 := (h.time l (List.mem_filter.1 h1).1).1
  exact ⟨l, r, u, hlr, h1, hu, h.least.low _ _ hu, by omega, by omega⟩
theorem goB_next {T : List Int → Int} {L : List (List Int)} {e f : Nat} {M : Nat → Option Int} (h : LeftOk T L e M) {x : Nat} {v : Int} (hx : M x = some v) (hv : 0 < v) (hf : lessN (sts 4) M v ≤ f) :
    ∃ f' l r u, f = f' + 1 ∧ bestOf T L M x = l :: r ∧ goB T L M f x = l :: goB T L M f' (stepC x l) ∧ l ∈ mvsW 4 L x ∧ M (stepC x l) = some u ∧ lessN (sts 4) M u ≤ f' ∧ 0 ≤ u := by
  obtain ⟨l, r, u, h1, h2, h3, h4, h5, -⟩ := h.next hx hv
  have h6 := less_more (dom := sts 4) h3 (h.dom _ _ h3) h5
  cases f with
  | zero => omega
  | succ f =>
    refine ⟨f, l, r, u, rfl, h1, ?_, h2, h3, by omega, h4⟩
    rw [goB, if_neg (by unfold lf; rw [hx]; show ¬ v ≤ 0; omega), h1]
theorem goB_stop {T : List Int → Int} {L : List (List Int)} {f x : Nat} {M : Nat → Option Int} (h : lf M x ≤ 0) : goB T L M f x = [] := by
  cases f with
  | zero => rfl
  | succ f => rw [goB, if_pos h]
theorem goB_len (T : List Int → Int) (L : List (List Int)) (M : Nat → Option Int) : ∀ f x, (goB T L M f x).length ≤ f
  | 0, _ => Nat.le_refl _
  | f + 1, x => by
    rw [goB]
    split
    · simp
    · split
      · simp
      · rename_i l r _
        have := goB_len T L M f (stepC x l)
        simp; omega
theorem goB_mem {T : List Int → Int} {L : List (List Int)} {M : Nat → Option Int} : ∀ f x, ∀ l ∈ goB T L M f x, l ∈ L
  | 0, _, l, h => by cases h
  | f + 1, x, l, h => by
    rw [goB] at h
    split at h
    · cases h
    · split at h
      · cases h
      · rename_i l' r hb
        rcases List.mem_cons.1 h with rfl | h
        · exact (List.mem_filter.1 (show l ∈ bestOf T L M x by rw [hb]; exact List.mem_cons_self ..)).1
        · exact goB_mem f _ l h
/-- The trips in a state are the lists whose people are where the torch is, in order. -/
theorem subs_filt (P : Int → Bool) (m : Nat) : ∀ (o b : List Int), subs m (o.filter P) b = (subs m o b).filter (fun l => (l.drop b.length).all P)
  | [], _ => rfl
  | k :: r, b => by
    by_cases hm : m ≤ b.length
    · rw [subs_full hm, subs_full hm]; rfl
    · have hd : ∀ l ∈ subs m r (b ++ [k]), ((l.drop b.length).all P) = (P k && (l.drop (b ++ [k]).length).all P) := fun l hl => by
        obtain ⟨c, rfl, -, -, -⟩ := (subs_mem m r (b ++ [k]) l).1 hl
        rw [List.append_assoc, List.drop_left, show b ++ ([k] ++ c) = (b ++ [k]) ++ c by simp, List.drop_left]
        simp
      have ih := subs_filt P m r b
      rw [subs, if_neg hm, List.filter_append, List.filter_cons, ← ih]
      by_cases hk : P k = true
      · have ih2 := subs_filt P m r (b ++ [k])
        rw [List.filter_cons, if_pos hk, subs, if_neg hm, ih2]
        rw [List.filter_congr hd]
        simp [hk]
      · have hk' : P k = false := by simpa using hk
        rw [List.filter_cons, if_neg hk, List.filter_congr hd]
        simp [hk]
theorem trips_rides (n q : Nat) (bs : List Bool) (t : Bool) : tripsIn n (q : Int) bs t = ridesAt bs t (upLists n q) := by
  rw [tripsIn, here_range, subs_filt]
  rfl
end Go.Proofs.Ytlpeimlbpiofkaa

namespace Go.Proofs.Ytlpeimlbpiofkaa
open Go.RowKit

def rwsM (k q x : Nat) : List Nat := rowsM k q x (2 ^ (2 * k) - 1) 1 []
def ny (x g : Nat) : Nat := x ^^^ (2 * g + 1)
/-- How far, in how many ways, what waits. -/
structure FarSt where
  F : List Int
  W : List Int
  Q : List Nat
def waysP (F W : List Int) (x y : Nat) : List Int := if F.getD y 0 = F.getD x 0 + 1 then W.set y (IntKind.i64.wrap (W.getD y 0 + W.getD x 0)) else W
def stepF (x : Nat) (st : FarSt) (g : Nat) : FarSt :=
  if st.F.getD (ny x g) 0 < 0 then ⟨st.F.set (ny x g) (st.F.getD x 0 + 1), waysP (st.F.set (ny x g) (st.F.getD x 0 + 1)) st.W x (ny x g), st.Q ++ [ny x g]⟩
  else ⟨st.F, waysP st.F st.W x (ny x g), st.Q⟩
def expFJ (x : Nat) (gs : List Nat) (st : FarSt) (j : Nat) : FarSt := (gs.take j).foldl (stepF x) st
def nextF (k q : Nat) (st : FarSt) (n : Nat) : FarSt := match st.Q[n]? with
  | none => st
  | some x => (rwsM k q x).foldl (stepF x) st
def startF (k src : Nat) : FarSt := ⟨(List.replicate (2 * 2 ^ (2 * k)) (-1)).set src 0, (List.replicate (2 * 2 ^ (2 * k)) 0).set src 1, [src]⟩
def runF (k q src : Nat) : Nat → FarSt
  | 0 => startF k src
  | n + 1 => nextF k q (runF k q src n) n
theorem expFJ_next {x : Nat} {gs : List Nat} {st : FarSt} {j : Nat} (hj : j < gs.length) : expFJ x gs st (j + 1) = stepF x (expFJ x gs st j) gs[j] := by
  rw [expFJ, List.take_succ_eq_append_getElem hj, List.foldl_append]; rfl
theorem expFJ_all (x : Nat) (gs : List Nat) (st : FarSt) : expFJ x gs st gs.length = gs.foldl (stepF x) st := by rw [expFJ, List.take_length]
theorem ny_ne (x g : Nat) : ny x g ≠ x := fun h => by
  have h1 : bitAt (ny x g) 0 = bitAt x 0 := by rw [h]
  unfold ny bitAt at h1
  rw [Nat.testBit_xor] at h1
  have h2 : (2 * g + 1).testBit 0 = true := by simp [Nat.testBit_zero]
  rw [h2] at h1
  cases hx : x.testBit 0 <;> simp [hx] at h1
theorem getD_set_ne {F : List Int} {x y : Nat} {v : Int} (h : y ≠ x) : (F.set y v).getD x 0 = F.getD x 0 := by
  simp [List.getD_eq_getElem?_getD, List.getElem?_set, h]
theorem getD_set_at {F : List Int} {y : Nat} {v : Int} (h : y < F.length) : (F.set y v).getD y 0 = v := by
  simp [List.getD_eq_getElem?_getD, h]
theorem stepF_new {x g : Nat} {F W : List Int} {Q : List Nat} {y : Nat} {fx wx wy : Int} (hy : ny x g = y) (hl : y < F.length) (h0 : F.getD y 0 < 0) (hf : F.getD x 0 = fx) (hw : W.getD y 0 = wy) (hx : W.getD x 0 = wx) :
    stepF x ⟨F, W, Q⟩ g = ⟨F.set y (fx + 1), W.set y (IntKind.i64.wrap (wy + wx)), Q ++ [y]⟩ := by
  have hne : y ≠ x := hy ▸ ny_ne x g
  simp only [stepF, hy, h0, if_true, hf]
  rw [waysP, getD_set_at hl, getD_set_ne hne, hf, if_pos rfl, hw, hx]
theorem stepF_more {x g : Nat} {F W : List Int} {Q : List Nat} {y : Nat} {fx wx wy : Int} (hy : ny x g = y) (h0 : ¬ F.getD y 0 < 0) (hf : F.getD x 0 = fx) (he : F.getD y 0 = fx + 1) (hw : W.getD y 0 = wy) (hx : W.getD x 0 = wx) :
    stepF x ⟨F, W, Q⟩ g = ⟨F, W.set y (IntKind.i64.wrap (wy + wx)), Q⟩ := by
  simp only [stepF, hy, h0, if_false]
  rw [waysP, hf, if_pos he, hw, hx]
theorem stepF_old {x g : Nat} {F W : List Int} {Q : List Nat} {y : Nat} {fx : Int} (hy : ny x g = y) (h0 : ¬ F.getD y 0 < 0) (hf : F.getD x 0 = fx) (he : ¬ F.getD y 0 = fx + 1) :
    stepF x ⟨F, W, Q⟩ g = ⟨F, W, Q⟩ := by
  simp only [stepF, hy, h0, if_false]
  rw [waysP, hf, if_neg he]

/-- All is within bounds. -/
structure MildF (k b : Nat) (st : FarSt) : Prop where
  lf : st.F.length = 2 * 2 ^ (2 * k)
  lw : st.W.length = 2 * 2 ^ (2 * k)
  val : ∀ v ∈ st.F, -1 ≤ v ∧ v ≤ b
  dom : ∀ y ∈ st.Q, y ∈ sts k
  len : st.Q.length ≤ b
theorem MildF.mono {k b c : Nat} {st : FarSt} (h : MildF k b st) (hb : b ≤ c) : MildF k c st := ⟨h.lf, h.lw, fun v hv => ⟨(h.val v hv).1, by have := (h.val v hv).2; omega⟩, h.dom, by have := h.len; omega⟩
theorem getD_in {F : List Int} {lo hi : Int} (h : ∀ v ∈ F, lo ≤ v ∧ v ≤ hi) (h0 : lo ≤ 0 ∧ 0 ≤ hi) (x : Nat) : lo ≤ F.getD x 0 ∧ F.getD x 0 ≤ hi := by
  rcases Nat.lt_or_ge x F.length with hx | hx
  · rw [show F.getD x 0 = F[x] by simp [hx]]; exact h _ (List.getElem_mem hx)
  · rw [show F.getD x 0 = 0 by simp [hx]]; exact h0
theorem MildF.at_ {k b : Nat} {st : FarSt} (h : MildF k b st) (x : Nat) : -1 ≤ st.F.getD x 0 ∧ st.F.getD x 0 ≤ b := getD_in h.val (by omega) x
theorem ways_len (F W : List Int) (x y : Nat) : (waysP F W x y).length = W.length := by unfold waysP; split <;> simp
theorem MildF.step {k b x g : Nat} {st : FarSt} (h : MildF k b st) (hy : ny x g ∈ sts k) : MildF k (b + 1) (stepF x st g) := by
  have h2 := h.at_ x
  by_cases h0 : st.F.getD (ny x g) 0 < 0
  · simp only [stepF, h0, if_true]
    refine ⟨by simp [h.lf], by rw [ways_len]; exact h.lw, fun v hv => ?_, fun y hm => ?_, ?_⟩
    · rcases List.mem_or_eq_of_mem_set hv with hv | rfl
      · have := h.val v hv; omega
      · omega
    · rcases List.mem_append.1 hm with hm | hm
      · exact h.dom y hm
      · obtain rfl : y = ny x g := by simpa using hm
        exact hy
    · simp; exact h.len
  · simp only [stepF, h0, if_false]
    exact ⟨h.lf, by rw [ways_len]; exact h.lw, fun v hv => by have := h.val v hv; omega, h.dom, Nat.le_succ_of_le h.len⟩
theorem MildF.exp {k b x : Nat} {st : FarSt} (h : MildF k b st) : ∀ (gs : List Nat), (∀ g ∈ gs, ny x g ∈ sts k) → MildF k (b + gs.length) (gs.foldl (stepF x) st)
  | [], _ => h
  | g :: gs, hl => by
    have h1 := MildF.exp (h.step (hl g (by simp))) gs (fun m hm => hl m (by simp [hm]))
    rw [List.length_cons, show b + (gs.length + 1) = b + 1 + gs.length by omega]
    exact h1
theorem rowsM_lt (k : Nat) (q : Int) (x B : Nat) : ∀ (n g : Nat) (out : List Nat), (∀ y ∈ out, y < B) → g + n ≤ B → ∀ y ∈ rowsM k q x n g out, y < B
  | 0, _, _, h, _ => h
  | n + 1, g, out, h, hb => by
    rw [rowsM_next]
    refine rowsM_lt k q x B n (g + 1) _ ?_ (by omega)
    split
    · exact insG_mem h (by omega)
    · exact h
theorem rwsM_lt {k q x g : Nat} (h : g ∈ rwsM k q x) : g < 2 ^ (2 * k) :=
  rowsM_lt k q x (2 ^ (2 * k)) _ _ _ (fun y hy => by cases hy) (by have := Nat.two_pow_pos (2 * k); omega) g h
theorem ny_in {k q x g : Nat} (hx : x ∈ sts k) (h : g ∈ rwsM k q x) : ny x g ∈ sts k := by
  have h1 := rwsM_lt h
  have hx' := sts_mem.1 hx
  rw [sts_mem, ny, show 2 * 2 ^ (2 * k) = 2 ^ (2 * k + 1) by rw [Nat.pow_succ]; omega]
  exact Nat.xor_lt_two_pow (by rw [Nat.pow_succ]; omega) (by rw [Nat.pow_succ]; omega)
theorem rwsM_len {k q x : Nat} (hk : k ≤ 4) : (rwsM k q x).length ≤ 255 := by
  have h := rowsM_len k q x (2 ^ (2 * k) - 1) 1 []
  have h2 := pow_c hk
  simp only [List.length_nil] at h
  unfold rwsM
  omega
theorem MildF.run {k q src : Nat} (hk : k ≤ 4) (hs : src ∈ sts k) : ∀ n, MildF k (256 * n + 1) (runF k q src n)
  | 0 => by
    refine ⟨by simp [runF, startF], by simp [runF, startF], fun v hv => ?_, fun y hy => ?_, by simp [runF, startF]⟩
    · rcases List.mem_or_eq_of_mem_set hv with hv | rfl
      · have := List.eq_of_mem_replicate hv; omega
      · omega
    · obtain rfl : y = src := by simpa [runF, startF] using hy
      exact hs
  | n + 1 => by
    have h := MildF.run (q := q) hk hs n
    show MildF k _ (nextF k q (runF k q src n) n)
    cases hq : (runF k q src n).Q[n]? with
    | none => rw [show nextF k q (runF k q src n) n = runF k q src n by simp [nextF, hq]]; exact h.mono (by omega)
    | some x =>
      have hx : x ∈ sts k := h.dom x (List.mem_of_getElem? hq)
      have h2 := h.exp (x := x) (rwsM k q x) (fun g hg => ny_in hx hg)
      have h3 := rwsM_len (k := k) (q := q) (x := x) hk
      rw [show nextF k q (runF k q src n) n = (rwsM k q x).foldl (stepF x) (runF k q src n) by simp [nextF, hq]]
      exact h2.mono (by omega)
def finF (k q src : Nat) : FarSt := runF k q src (turns k)
theorem runF_stay {k q src n : Nat} (h : (runF k q src n).Q.length ≤ n) : ∀ m, runF k q src (n + m) = runF k q src n
  | 0 => rfl
  | m + 1 => by
    have e := runF_stay h m
    show nextF k q (runF k q src (n + m)) (n + m) = _
    rw [e]
    simp only [nextF]
    rw [List.getElem?_eq_none (by omega)]
end Go.Proofs.Ytlpeimlbpiofkaa

namespace Go.Proofs.Ytlpeimlbpiofkaa
open Go.RowKit

theorem nums_set (F : List Int) (i : Nat) (v : Int) : (nums F).toArray.setIfInBounds i (.int .i64 v) = (nums (F.set i v)).toArray := by
  simp [nums, List.map_set]
theorem nums_at {F : List Int} {i : Nat} (h : i < F.length) : (nums F).toArray[i]? = some (.int .i64 (F.getD i 0)) := by
  simp [nums, h]
/-- How far, behind j rounds of the first loop. -/
def negs (n j : Nat) : List Int := (List.range n).map fun i => if i < j then -1 else 0
theorem negs_zero (n : Nat) : negs n 0 = List.replicate n 0 := by
  refine List.ext_getElem (by simp [negs]) fun i h1 h2 => ?_
  simp [negs]
theorem negs_all (n : Nat) : negs n n = List.replicate n (-1) := by
  refine List.ext_getElem (by simp [negs]) fun i h1 h2 => ?_
  have hi : i < n := by simpa [negs] using h1
  simp [negs, hi]
theorem negs_len (n j : Nat) : (negs n j).length = n := by simp [negs]
theorem negs_next {n j : Nat} : (negs n j).set j (-1) = negs n (j + 1) := by
  refine List.ext_getElem (by simp [negs]) fun i h1 h2 => ?_
  have hi : i < n := by simpa [negs] using h2
  rw [List.getElem_set]
  simp only [negs, List.getElem_map, List.getElem_range]
  by_cases h : j = i
  · subst h; simp
  · rw [if_neg h]
    by_cases h3 : i < j
    · rw [if_pos h3, if_pos (by omega)]
    · rw [if_neg h3, if_neg (by omega)]
theorem make_ints {z : Nat} (hz : z ≤ 256) (W : World) : (Instr.makeSlice 22 (.int .i64 (2 * (z : Int))) (.int .i64 (2 * (z : Int)))).run Try.prog W = .ok (.slice (some ⟨W.heap.size, 0, none⟩) (2 * z) (2 * z)) (W.alloc (.cells (nums (List.replicate (2 * z) 0)).toArray 3)) := by
  obtain ⟨i0, hi, hz0, hz1, hz2⟩ := info_parts info_int
  have h := run_make (P := Try.prog) W 22 3 i0 _ Try.underlying22 hi hz0 .i64 .i64 ((2 * z : Nat) : Int) ((2 * z : Nat) : Int) (by omega) (by omega) (by rw [hz2]; omega) (by omega)
  simp only [Int.toNat_natCast, hz1, made_zeros] at h
  rw [show 2 * (z : Int) = ((2 * z : Nat) : Int) by omega, h]
structure FarC (w : World) (gF gW B : Nat) : Prop where
  c1 : w.heap.size < gF
  c2 : w.heap.size < gW
  c3 : gF ≠ gW
  c4 : gF < B
  c5 : gW < B
structure FarD (B B2 B3 : Nat) (rowv : Value) : Prop where
  d1 : B ≤ B2
  d2 : B2 ≤ B3
  rob : ∀ kk, rowv.ownBlock = some kk → B2 ≤ kk ∧ kk < B3
section
variable {w wz wz' : World} {a s : Int} {gF gW B B2 B3 : Nat} {rowv v v' : Value} {gs : List Nat} {F W F' W' : List Int} {Q Q' : List Nat}
end
/-- What the search hands back. -/
def FarPost (k q src : Nat) (w : World) (e : Ending) (w' : World) : Prop :=
  ∃ gF gW : Nat, e = .returned (.tuple #[.slice (some ⟨gF, 0, none⟩) (2 * 2 ^ (2 * k)) (2 * 2 ^ (2 * k)), .slice (some ⟨gW, 0, none⟩) (2 * 2 ^ (2 * k)) (2 * 2 ^ (2 * k))]) ∧ Whole w' gF 3 (nums (finF k q src).F).toArray ∧ Whole w' gW 3 (nums (finF k q src).W).toArray ∧ Below w.heap.size w w'
end Go.Proofs.Ytlpeimlbpiofkaa

namespace Go.Proofs.Ytlpeimlbpiofkaa
open Go.RowKit

theorem make_intsF {z : Nat} (hz : z ≤ 512) (W : World) : (Instr.makeSlice 22 (.int .i64 (z : Int)) (.int .i64 (z : Int))).run Try.prog W = .ok (.slice (some ⟨W.heap.size, 0, none⟩) z z) (W.alloc (.cells (nums (List.replicate z 0)).toArray 3)) := by
  obtain ⟨i0, hi, hz0, hz1, hz2⟩ := info_parts info_int
  have h := run_make (P := Try.prog) W 22 3 i0 _ Try.underlying22 hi hz0 .i64 .i64 ((z : Nat) : Int) ((z : Nat) : Int) (by omega) (by omega) (by rw [hz2]; omega) (by omega)
  simp only [Int.toNat_natCast, hz1, made_zeros] at h
  rw [h]
theorem make_boolsF {z : Nat} (hz : z ≤ 512) (W : World) : (Instr.makeSlice 38 (.int .i64 (z : Int)) (.int .i64 (z : Int))).run Try.prog W = .ok (.slice (some ⟨W.heap.size, 0, none⟩) z z) (W.alloc (.cells (bits (falses z)).toArray 4)) := by
  obtain ⟨i0, hi, hz0, hz1, hz2⟩ := info_parts info_bool
  have h := run_make (P := Try.prog) W 38 4 i0 _ Try.underlying38 hi hz0 .i64 .i64 ((z : Nat) : Int) ((z : Nat) : Int) (by omega) (by omega) (by rw [hz2]; omega) (by omega)
  simp only [Int.toNat_natCast, hz1, made_falses] at h
  rw [h]
  rfl

theorem num_cellF {w : World} {g i : Nat} {t : TypeId} {F : List Int} {v : Int} (h : Whole w g t (nums F).toArray) (hi : i < F.length) (hv : F.getD i 0 = v) : w.cell? ⟨g, i, none⟩ = some (.int .i64 v) := by rw [h.cell, nums_at hi, hv]
theorem getD_m1 {o : List Int} {i : Nat} (h : i < o.length) : o.getD i 0 = o.getD i (-1) := by rw [List.getD_eq_getElem?_getD, List.getD_eq_getElem?_getD, List.getElem?_eq_getElem h]; rfl
theorem slow_boundF {xs l : List Int} (h1 : ∀ y ∈ xs, 1 ≤ y) (h2 : ∀ y ∈ xs, y ≤ 1000) : 0 ≤ slowOf xs l ∧ slowOf xs l ≤ 1000 := by
  have key : ∀ (f : List Int) (a : Int), 0 ≤ a → a ≤ 1000 → (∀ x ∈ f, x ≤ 1000) → 0 ≤ f.foldl max a ∧ f.foldl max a ≤ 1000 := by
    intro f
    induction f with
    | nil => exact fun a h0 h1 _ => ⟨h0, h1⟩
    | cons b f ih =>
      intro a h0 h1 hf
      have hb := hf b (List.mem_cons_self ..)
      exact ih (max a b) (by omega) (by omega) (fun x hx => hf x (List.mem_cons_of_mem _ hx))
  refine key _ 0 (Int.le_refl _) (by omega) (fun x hx => ?_)
  obtain ⟨k, -, rfl⟩ := List.mem_map.1 hx
  rw [List.getD_eq_getElem?_getD]
  cases hk : xs[k.toNat]? with
  | none => simp
  | some v => exact h2 v (List.mem_of_getElem? hk)
theorem below_spanF {lo hi : Nat} {a w w' : World} (h : Below a.heap.size a w) (hs : Span lo hi w w') (hl : a.heap.size ≤ lo) : Below a.heap.size a w' := hs.below h hl h.size
theorem span_setF (w : World) (b o : Nat) (u : Value) : Span b (b + 1) w (w.setCell ⟨b, o, none⟩ u) := by
  have h := below_set (Below.refl b w) (b := b) (o := o) (u := u) (Nat.le_refl _)
  refine ⟨h.os, h.tape, h.output, h.size, fun k hk hd => ?_⟩
  rcases hd with hd | hd
  · exact h.block k hd
  · exact Below.heap_setCell _ _ _ _ (by show k ≠ b; omega)
theorem own_partsF {w : World} {lo size c n : Nat} {e : TypeId} {A : Option Addr} {xs : List Value} (h : w.ownsRow lo e size (.slice A n c) n xs) : n ≤ 9223372036854775807 := by
  obtain ⟨-, ⟨hv, h0⟩ | ⟨g, cap, cur, hv, hlo, hh, hnc, hcm, -⟩⟩ := h
  · omega
  · unfold maxLen at hcm
    omega
theorem bits_setF (d : List Bool) (i : Nat) (v : Bool) : (bits d).toArray.setIfInBounds i (.bool v) = (bits (d.set i v)).toArray := by
  rw [List.setIfInBounds_toArray]
  congr 1
  simp [bits, List.map_set]
/-- What stands between two rounds: the two lists, the two boxes. -/
structure SeO (w wr : World) (cs ds : Array Value) (gF gD : Nat) (done : List Bool) (o : List Int) : Prop where
  far : Whole wr gF 3 (nums o).toArray
  don : Whole wr gD 4 (bits done).toArray
  cur : Whole wr w.heap.size 28 cs
  bel : Below w.heap.size w wr
  low : gD < wr.heap.size
/-- What seFar hands back. -/
def FarPost8 (xs : List Int) (s : Int) (n e : Nat) (w : World) (e' : Ending) (w' : World) : Prop :=
  ∃ (g : Nat) (done : List Bool) (o : List Int), e' = .returned (.slice (some ⟨g, 0, none⟩) o.length o.length) ∧ o.length = 2 ^ (n + 1) ∧ Whole w' g 3 (nums o).toArray ∧ Least (Leg xs n s) (stateS n e) (settledS n done o) ∧ (∀ i, i < 2 ^ (n + 1) → done.getD i false = false → o.getD i (-1) < 0) ∧ (∀ i, -1 ≤ o.getD i (-1) ∧ o.getD i (-1) ≤ 512000) ∧ w.heap.size ≤ g ∧ Below w.heap.size w w'

set_option maxHeartbeats 12800000 in
set_option maxRecDepth 100000 in
set_option linter.unusedVariables false in
set_option linter.unusedSimpArgs false in
theorem seFar_any (A B : Option Addr) (n c d q : Nat) (xs : List Int) (bs : List Bool) (t : Bool) (w : World) (hA : Holds w A (nums xs)) (hB : Holds w B (bits bs)) (hx : xs.length = n) (hy : bs.length = n) (h1 : 1 ≤ n) (hn : n ≤ 8) (hq : q ≤ 8) (hxs : ∀ y ∈ xs, 1 ≤ y ∧ y ≤ 1000) :
    Calls Try.prog 68 #[.agg #[.slice A n c, .int .i64 (q : Int)], .agg #[.slice B n d, .bool t]] w (FarPost8 xs q n (num bs t.toNat) w) := by
  have HX := Lib.hid hx
  have HY := Lib.hid hy
  have HXS := Lib.hid (fun y hy => (hxs y hy).1)
  have HXB := Lib.hid (fun y hy => (hxs y hy).2)
  have HA := Lib.hid hA
  have HB := Lib.hid hB
  have hc := (Whole.fresh w 28 #[.slice A n c, .int .i64 (q : Int)]).alloc (.cells #[.slice B n d, .bool t] 44)
  have hs := Whole.fresh (w.alloc (.cells #[.slice A n c, .int .i64 (q : Int)] 28)) 44 #[.slice B n d, .bool t]
  rw [World.size_alloc] at hs
  have ht := below2 w (.cells #[.slice A n c, .int .i64 (q : Int)] 28) (.cells #[.slice B n d, .bool t] 44)
  obtain ⟨c0, c1⟩ := hc.cells2
  have hcl := hc.lt
  obtain ⟨en, hen⟩ : ∃ en, en = num bs t.toNat := ⟨_, rfl⟩
  have HEN := Lib.hid hen
  rw [← HEN.out]
  obtain ⟨z, hz⟩ : ∃ z, z = 2 ^ (n + 1) := ⟨_, rfl⟩
  have hel : en < z := by
    have h := num_lt bs t
    rw [hy] at h
    rw [hen, hz]
    exact h
  have hz512 : z ≤ 512 := by rw [hz]; exact Nat.le_trans (Nat.pow_le_pow_right (by omega) (show n + 1 ≤ 9 by omega)) (by decide)
  have hzi : (2 * 2 ^ n : Int) = ((z : Nat) : Int) := by rw [hz, Nat.pow_succ]; push_cast; omega
  have hwr : IntKind.i64.wrap (2 * 2 ^ n) = ((z : Nat) : Int) := by rw [hzi]; exact IntWalk.i64_in _ (by omega)
  have hwr2 : IntKind.i64.wrap (2 ^ (n + 1)) = ((z : Nat) : Int) := by rw [← hwr, Int.pow_succ, Int.mul_comm]
  have HZ := Lib.hid hz
  clear hz hzi hx hy hxs hen hA hB
  have hmk := make_intsF (z := z) hz512 ((w.alloc (.cells #[.slice A n c, .int .i64 (q : Int)] 28)).alloc (.cells #[.slice B n d, .bool t] 44))
  have hmk2 := fun W : World => make_intsF (z := z) hz512 W
  have hmkb := fun W : World => make_boolsF (z := z) hz512 W
  go_enter Try.func68, Try.ntmps68
  go_upto_region 3 with fail
  clear hmk hmk2 hmkb
  have f1 := (Whole.fresh ((w.alloc (.cells #[.slice A n c, .int .i64 (q : Int)] 28)).alloc (.cells #[.slice B n d, .bool t] 44)) 3 (nums (List.replicate z 0)).toArray).alloc (.cells (bits (falses z)).toArray 4)
  have f2 := Whole.fresh (((w.alloc (.cells #[.slice A n c, .int .i64 (q : Int)] 28)).alloc (.cells #[.slice B n d, .bool t] 44)).alloc (.cells (nums (List.replicate z 0)).toArray 3)) 4 (bits (falses z)).toArray
  have f3 := (hc.alloc (.cells (nums (List.replicate z 0)).toArray 3)).alloc (.cells (bits (falses z)).toArray 4)
  have f4 := (hs.alloc (.cells (nums (List.replicate z 0)).toArray 3)).alloc (.cells (bits (falses z)).toArray 4)
  have f5 := (ht.alloc ht.size (.cells (nums (List.replicate z 0)).toArray 3)).alloc (by simp; omega) (.cells (bits (falses z)).toArray 4)
  simp only [World.size_alloc] at f1 f2
  clear hc hs ht c0 c1 hcl
  generalize (((w.alloc (.cells #[.slice A n c, .int .i64 (q : Int)] 28)).alloc (.cells #[.slice B n d, .bool t] 44)).alloc (.cells (nums (List.replicate z 0)).toArray 3)).alloc (.cells (bits (falses z)).toArray 4) = w4 at f1 f2 f3 f4 f5 ⊢
  obtain ⟨gF, hgF⟩ : ∃ g, g = w.heap.size + 1 + 1 := ⟨_, rfl⟩
  obtain ⟨gD, hgD⟩ : ∃ g, g = w.heap.size + 1 + 1 + 1 := ⟨_, rfl⟩
  rw [← hgD] at f2 ⊢
  rw [← hgF] at f1 ⊢
  have hne : gF ≠ gD := by omega
  have hfd : gF < gD := by omega
  have hgf : w.heap.size + 1 < gF := by omega
  have hgd : w.heap.size + 1 < gD := by omega
  have H1 := Lib.hid f1
  have H2 := Lib.hid f2
  have H3 := Lib.hid f3
  have H4 := Lib.hid f4
  have H5 := Lib.hid f5
  clear f1 f2 f3 f4 f5 hgF hgD
  go_wp2
  go_loopw [26] (fun i wr => ∃ j : Nat, j ≤ z ∧ i = .int .i64 j ∧ Whole wr gF 3 (nums (negs z j)).toArray ∧ Whole wr w.heap.size 28 #[.slice A n c, .int .i64 (q : Int)] ∧ Whole wr (w.heap.size + 1) 44 #[.slice B n d, .bool t] ∧ Whole wr gD 4 (bits (falses z)).toArray ∧ Below w.heap.size w wr) (fun i _ => z - (intOf i).toNat)
  case atStart => exact ⟨0, Nat.zero_le _, rfl, by rw [negs_zero]; exact H1.out, H3.out, H4.out, H2.out, H5.out⟩
  case round =>
    clear H1 H2 H3 H4 H5
    obtain ⟨j, hj, rfl, hf, hcw, hsw, hd, ht⟩ := hrel
    obtain ⟨wo, rfl⟩ : ∃ W : World, W = wr := ⟨_, rfl⟩
    have hlF := hf.lt
    by_cases hlt : j < z
    · have hd1 : decide ((j : Int) < (z : Int)) = true := by simp; omega
      have hcell := (hf.cell j).trans (nums_at (by rw [negs_len]; exact hlt))
      have hfr := hf.open_ j
      have G1 := Lib.hid (show Whole (wo.setCell ⟨gF, j, none⟩ (.int .i64 (-1))) gF 3 (nums (negs z (j + 1))).toArray by have h := hf.set_ j (.int .i64 (-1)); rw [nums_set, negs_next] at h; exact h)
      have G3 := Lib.hid (hcw.off (b := gF) (o := j) (u := .int .i64 (-1)) (by omega))
      have G4 := Lib.hid (hsw.off (b := gF) (o := j) (u := .int .i64 (-1)) (by omega))
      have G5 := Lib.hid (hd.off (b := gF) (o := j) (u := .int .i64 (-1)) (fun e => hne e.symm))
      have G6 := Lib.hid (below_set (b := gF) (o := j) (u := .int .i64 (-1)) ht (by omega))
      clear hf hcw hsw hd ht
      go_wp2
      go_roundw
      case rel => exact ⟨j + 1, by omega, by go_num, G1.out, G3.out, G4.out, G5.out, G6.out⟩
      case measure => simp [intOf]; omega
    · obtain rfl : j = z := by omega
      have hd1 : decide ((j : Int) < (j : Int)) = false := by simp
      rw [negs_all] at hf
      obtain ⟨e0, e1, -, -⟩ := hsw.two
      have hls := hsw.lt
      go_wp2_with fail
      refine (seIndex_any B n d bs t wo (HB.out.below ht) HY.out hn).mono ?_
      rintro e w3 ⟨rfl, hb3⟩
      rw [← HEN.out]
      replace hf := hf.below hb3
      replace hcw := hcw.below hb3
      replace hd := hd.below hb3
      replace ht := below_then ht hb3 ht.size
      clear hb3 e0 e1 hls hsw
      have a0 := num_cellF (v := -1) hf (i := en) (by simpa using hel) (by simp [hel])
      have a1 := hf.open_ en
      have a4 := hf.lt
      have hf1 := hf.set_ en (.int .i64 0)
      rw [nums_set] at hf1
      have hdj : decide ((en : Int) < (j : Int)) = true := by simp; omega
      have hdl := hd.lt
      have HS0 : Hid (SeO w (World.setCell w3 ⟨gF, en, none⟩ (.int .i64 0)) #[.slice A n c, .int .i64 (q : Int)] #[] gF gD (falses j) ((List.replicate j (-1)).set en 0)) :=
        ⟨hf1, hd.off (fun e => hne e.symm), hcw.off (by omega), below_set ht (by omega), by simpa [World.setCell] using hdl⟩
      clear hf hcw hd ht hf1
      go_wp2
      go_loopg [8] j (fun gh v wr => ∃ (done : List Bool) (o : List Int), done.count true + gh = j ∧ SeTo xs q n en done o ∧ (∀ i, -1 ≤ o.getD i (-1) ∧ o.getD i (-1) ≤ 1000 * (done.count true : Nat)) ∧ SeO w wr #[.slice A n c, .int .i64 (q : Int)] #[] gF gD done o)
      case atStart =>
        refine ⟨falses j, _, by simp [falses, List.count_replicate], ?_, fun i => ?_, HS0.out⟩
        · have h := se_start (xs := xs) (s := (q : Int)) (n := n) (e := en) (by rw [← HZ.out]; exact hel)
          rw [← HZ.out] at h
          exact h
        · have h0 : (falses j).count true = 0 := by simp [falses, List.count_replicate]
          rw [h0]
          by_cases hi : en = i
          · subst hi
            rw [List.getD_eq_getElem?_getD, List.getElem?_set_self (by simpa using hel)]
            exact ⟨by decide, Int.le_refl _⟩
          · rw [List.getD_eq_getElem?_getD, List.getElem?_set_ne hi, List.getElem?_replicate]
            split <;> simp
      case round =>
        clear HS0 a0 a1 a4
        obtain ⟨done, o, hcn, hst, hbd, hS⟩ := hrel
        obtain ⟨wz, rfl⟩ : ∃ X : World, X = wr := ⟨_, rfl⟩
        have hdl : done.length = j := by rw [HZ.out]; exact hst.hd
        have hol : o.length = j := by rw [HZ.out]; exact hst.ho
        have HST := Lib.hid hst
        have HBD := Lib.hid hbd
        have HSS := Lib.hid hS
        have HCN := Lib.hid hcn
        have hfar := hS.far
        have hdon := hS.don
        clear hst hbd hS hcn
        go_wp2
        go_loop [8, 39] (fun a i => ∃ k : Nat, k ≤ j ∧ i = .int .i64 k ∧ a = .int .i64 (pickTo done o k)) (fun _ i => j - (intOf i).toNat)
        case atStart => exact ⟨0, Nat.zero_le _, rfl, rfl⟩
        case round =>
          obtain ⟨k, hk, rfl, rfl⟩ := hrel
          by_cases hlt : k < j
          · have hk1 : decide ((k : Int) < (j : Int)) = true := by simp; omega
            have hnx := pick_next done o k
            unfold pickStep at hnx
            have hpi := pick_is done o k
            have b0 := num_cellF (v := o.getD k 0) hfar (i := k) (by omega) rfl
            have hok2 : o.getD k 0 = o.getD k (-1) := by rw [List.getD_eq_getElem?_getD, List.getD_eq_getElem?_getD, List.getElem?_eq_getElem (show k < o.length by omega)]; rfl
            rw [hok2] at b0
            have b1 : wz.cell? ⟨gD, k, none⟩ = some (.bool (done.getD k false)) := by rw [hdon.cell k]; simp [bits, show k < done.length by omega]
            skip
            generalize o.getD k (-1) = v at b0 hnx
            generalize done.getD k false = dk at b1 hnx
            have hge : ∀ x : Int, decide (0 ≤ x) = true ↔ 0 ≤ x := fun x => by simp
            rcases hpi with ⟨hp, -⟩ | ⟨p, hp0, hp, -, hp3, -⟩
            · rw [hp] at hnx ⊢
              have HNX := Lib.hid hnx
              clear hnx hp
              cases dk
              · by_cases hv : 0 ≤ v
                · have hd0 : decide (0 ≤ v) = true := by simp [hv]
                  go_wp2
                  go_round
                  case rel => exact ⟨k + 1, by omega, by go_num, by rw [HNX.out, if_pos ⟨rfl, hv, .inl (by omega)⟩]⟩
                  case measure => simp [intOf]; omega
                · have hd0 : decide (0 ≤ v) = false := by simp; omega
                  go_wp2
                  go_round
                  case rel => exact ⟨k + 1, by omega, by go_num, by rw [HNX.out, if_neg (fun h => hv h.2.1)]⟩
                  case measure => simp [intOf]; omega
              · go_wp2
                go_round
                case rel => exact ⟨k + 1, by omega, by go_num, by rw [HNX.out, if_neg (fun h => by cases h.1)]⟩
                case measure => simp [intOf]; omega
            · have b2 := num_cellF (v := o.getD p 0) hfar (i := p) (by omega) rfl
              have hop2 : o.getD p 0 = o.getD p (-1) := by rw [List.getD_eq_getElem?_getD, List.getD_eq_getElem?_getD, List.getElem?_eq_getElem (show p < o.length by omega)]; rfl
              rw [hop2] at b2
              rw [hp] at hnx ⊢
              simp only [Int.toNat_natCast] at hnx
              have hpj : p < j := by omega
              clear hop2 hp
              obtain ⟨u, hu0⟩ : ∃ u, o.getD p (-1) = u := ⟨_, rfl⟩
              simp only [hu0] at b2 hnx hp3
              clear hu0
              have HNX := Lib.hid hnx
              clear hnx
              cases dk
              · by_cases hv : 0 ≤ v
                · have hd0 : decide (0 ≤ v) = true := by simp [hv]
                  have hd2 : decide ((p : Int) < 0) = false := by simp
                  by_cases hu : v < u
                  · have hd3 : decide (v < u) = true := by simp [hu]
                    go_wp2
                    go_round
                    case rel => exact ⟨k + 1, by omega, by go_num, by rw [HNX.out, if_pos ⟨rfl, hv, .inr hu⟩]⟩
                    case measure => simp [intOf]; omega
                  · have hd3 : decide (v < u) = false := by simp; omega
                    go_wp2
                    go_round
                    case rel => exact ⟨k + 1, by omega, by go_num, by rw [HNX.out, if_neg (fun h => by rcases h.2.2 with h | h <;> omega)]⟩
                    case measure => simp [intOf]; omega
                · have hd0 : decide (0 ≤ v) = false := by simp; omega
                  go_wp2
                  go_round
                  case rel => exact ⟨k + 1, by omega, by go_num, by rw [HNX.out, if_neg (fun h => hv h.2.1)]⟩
                  case measure => simp [intOf]; omega
              · go_wp2
                go_round
                case rel => exact ⟨k + 1, by omega, by go_num, by rw [HNX.out, if_neg (fun h => by cases h.1)]⟩
                case measure => simp [intOf]; omega
          · obtain rfl : k = j := by omega
            have hk1 : decide ((k : Int) < (k : Int)) = false := by simp
            have hpi := pick_is done o k
            rcases hpi with ⟨hp, hnone⟩ | ⟨p, hpk, hp, hpd, hp0, -⟩
            · rw [hp]
              have HEND := Lib.hid (se_end (xs := xs) (s := (q : Int)) HST.out (by rw [← HZ.out, hp]; omega))
              have hcl : done.count true ≤ 512 := by have h := List.count_le_length (a := true) (l := done); omega
              have HBE : Hid (∀ i, -1 ≤ o.getD i (-1) ∧ o.getD i (-1) ≤ 512000) := fun i => by have := HBD.out i; omega
              have HOL := Lib.hid hol
              clear hp hnone hdl hol hfar hdon
              go_wp2
              go_ret
              exact ⟨gF, done, o, (by rw [HOL.out]; rfl), by rw [HOL.out]; exact HZ.out, HSS.out.far, HEND.out.1, HEND.out.2, HBE.out, by omega, HSS.out.bel⟩
            · rw [hp]
              obtain ⟨hst2, -, -, -⟩ := se_round (xs := xs) (s := (q : Int)) HX.out HXS.out HST.out (by rw [← HZ.out]; exact hp)
              obtain ⟨m, hm⟩ : ∃ m, o.getD p (-1) = m := ⟨_, rfl⟩
              rw [hm] at hst2 hp0
              have HST2 := Lib.hid hst2
              have hcd := count_set done p (by omega) hpd
              have hcl : done.count true ≤ 512 := by have h := List.count_le_length (a := true) (l := done); omega
              have hmB : m ≤ 512000 := by have := (HBD.out p).2; omega
              have HCD := Lib.hid hcd
              have b1 : wz.cell? ⟨gD, p, none⟩ = some (.bool (done.getD p false)) := by rw [hdon.cell p]; simp [bits, show p < done.length by omega]
              have b2 := hdon.open_ p
              have b3 := hdon.lt
              have hfar1 := hfar.off (b := gD) (o := p) (u := .bool true) hne
              have hdon1 : Whole (wz.setCell ⟨gD, p, none⟩ (.bool true)) gD 4 (bits (done.set p true)).toArray := by have h := hdon.set_ p (.bool true); rw [bits_setF] at h; exact h
              have hcur1 := HSS.out.cur.off (b := gD) (o := p) (u := .bool true) (by omega)
              have hbel1 := below_set (b := gD) (o := p) (u := .bool true) HSS.out.bel (by omega)
              have hlow1 : gD < (wz.setCell ⟨gD, p, none⟩ (.bool true)).heap.size := by simpa [World.setCell] using HSS.out.low
              clear hp hpd hst2 hcd hfar hdon
              go_upto_region 19 with fail
              clear b1 b2 b3
              generalize wz.setCell ⟨gD, p, none⟩ (.bool true) = w5 at hfar1 hdon1 hcur1 hbel1 hlow1 ⊢
              obtain ⟨c0, c1⟩ := hcur1.cells2
              have hcl5 := hcur1.lt
              have hdig := digits_len n p
              have htop : topBit n p = (stateS n p).2 := by show _ = decide _; rw [topBit, Bool.eq_iff_iff]; simp
              go_wp2_with fail
              refine (seState_own n p w5 hn (by omega)).mono ?_
              rintro e w6 ⟨E, r, rfl, hE, hb6⟩
              obtain ⟨bE, oE, rfl⟩ : ∃ bE oE, E = some ⟨bE, oE, none⟩ := by
                rcases hE.holds with h | ⟨bE, oE, h, -, -⟩
                · have h2 := congrArg List.length h
                  simp [bits, hdig] at h2
                  omega
                · exact ⟨bE, oE, h⟩
              replace hfar1 := hfar1.below hb6
              replace hdon1 := hdon1.below hb6
              replace hcur1 := hcur1.below hb6
              replace hbel1 := below_then hbel1 hb6 hbel1.size
              have hlow6 : gD < w6.heap.size := by have := hb6.size; omega
              clear hb6 c0 c1 hcl5
              have hs7 := Whole.fresh w6 44 #[.slice (some ⟨bE, oE, none⟩) n r, .bool (topBit n p)]
              replace hfar1 := hfar1.alloc (.cells #[.slice (some ⟨bE, oE, none⟩) n r, .bool (topBit n p)] 44)
              replace hdon1 := hdon1.alloc (.cells #[.slice (some ⟨bE, oE, none⟩) n r, .bool (topBit n p)] 44)
              replace hcur1 := hcur1.alloc (.cells #[.slice (some ⟨bE, oE, none⟩) n r, .bool (topBit n p)] 44)
              replace hbel1 := hbel1.alloc hbel1.size (.cells #[.slice (some ⟨bE, oE, none⟩) n r, .bool (topBit n p)] 44)
              have hE7 := hE.alloc (.cells #[.slice (some ⟨bE, oE, none⟩) n r, .bool (topBit n p)] 44)
              obtain ⟨c0, c1⟩ := hcur1.cells2
              have hcl5 := hcur1.lt
              obtain ⟨d0, d1, -, -⟩ := hs7.two
              have hsl7 := hs7.lt
              have HDIG := Lib.hid hdig
              have HTOP := Lib.hid htop
              clear hdig htop hE
              go_wp2_with fail
              refine (paTrips_any A (some ⟨bE, oE, none⟩) n c n r q (digits n p) (topBit n p) _ hE7.holds HDIG.out hn hq).mono ?_
              rintro e w8 ⟨G, cG, rs, rfl, hrn, hnil, -, hG, hb8⟩
              have HRN : Hid (rowNums rs = tripsIn n (q : Int) (stateS n p).1 (stateS n p).2) := by show _ = _; rw [hrn, tripsIn, ← HTOP.out]; rfl
              replace hfar1 := hfar1.below hb8
              replace hdon1 := hdon1.below hb8
              replace hcur1 := hcur1.below hb8
              replace hbel1 := below_then hbel1 hb8 hbel1.size
              have hs8 := hs7.below hb8
              have hE8 := hE7.below hb8
              have hG8 := hG.free
              have hrl := (own_partsF hG.1)
              have hz68 : w6.heap.size < (w6.alloc (.cells #[.slice (some ⟨bE, oE, none⟩) n r, .bool (topBit n p)] 44)).heap.size := by simp
              have hz8 : w6.heap.size < w8.heap.size := by have := hb8.size; omega
              clear hb8 c0 c1 hcl5 d0 d1 hsl7 hrn hnil hs7 hE7 hG
              have HF8 := Lib.hid hfar1
              have HD8 := Lib.hid hdon1
              have HC8 := Lib.hid hcur1
              have HB8 := Lib.hid hbel1
              have HS8 := Lib.hid hs8
              have HE8 := Lib.hid hE8
              have HG8 := Lib.hid hG8
              clear hfar1 hdon1 hcur1 hbel1 hs8 hE8 hG8
              have HLEG : Hid ((tripsIn n (q : Int) (stateS n p).1 (stateS n p).2).map (fun l => (numS (flipped (stateS n p).1 l, !(stateS n p).2), slowOf xs l)) = legsS xs n q (stateS n p)) := rfl
              obtain ⟨es, hes⟩ : ∃ es, es = legsS xs n q (stateS n p) := ⟨_, rfl⟩
              have hrlen : rs.length = es.length := by rw [hes, ← HLEG.out, List.length_map, ← HRN.out, rowNums_len]
              have HES : Hid (∀ (k : Nat) (hk : k < rs.length), ∃ h : k < es.length, es[k] = (num (flipped (digits n p) rs[k].xs) (!topBit n p).toNat, slowOf xs rs[k].xs) ∧ rs[k].xs ∈ upLists n q) := fun k hk => by
                have h1 : k < (tripsIn n (q : Int) (stateS n p).1 (stateS n p).2).length := by rw [← HRN.out, rowNums_len]; exact hk
                have h2 : (tripsIn n (q : Int) (stateS n p).1 (stateS n p).2)[k] = rs[k].xs := by have h := rowNums_get hk; simp only [HRN.out] at h; exact h
                refine ⟨by omega, ?_, ?_⟩
                · subst hes
                  simp only [legsS, List.getElem_map, h2, numS]
                  rw [HTOP.out]
                  rfl
                · have h3 : rs[k].xs ∈ tripsIn n (q : Int) (stateS n p).1 (stateS n p).2 := by rw [← h2]; exact List.getElem_mem h1
                  exact (trips_mem n q _ _ _).1 h3 |>.1
              have HE0 := Lib.hid hes
              have HRL := Lib.hid hrlen
              clear hes hrlen
              go_wp2
              go_loopw [82] (fun i wr => ∃ k' : Nat, k' ≤ rs.length ∧ i = .int .i64 k' ∧ Whole wr gF 3 (nums (relax m (es.take k') o)).toArray ∧ Span gF (gF + 1) w8 wr) (fun i _ => rs.length - (intOf i).toNat)
              case atStart => exact ⟨0, Nat.zero_le _, rfl, HF8.out, Span.refl _ _ _⟩
              case round =>
                obtain ⟨i, hi, rfl, hf, hsp⟩ := hrel
                obtain ⟨wv, rfl⟩ : ∃ X : World, X = wr := ⟨_, rfl⟩
                by_cases hlt : i < rs.length
                · have hd2 : decide ((i : Int) < (rs.length : Int)) = true := by simp; omega
                  obtain ⟨hlt2, hei, hup⟩ := HES.out i hlt
                  have hRX : relax m (es.take (i + 1)) o = relax1 m (relax m (es.take i) o) es[i] := by rw [List.take_succ_eq_append_getElem hlt2, relax_snoc]
                  rw [hei] at hRX
                  have hgz := hsp.freeGrid HG8.out (.inr (by omega))
                  obtain ⟨b6, o6, rfl, hbl6, hcell6, hrow6, hrl6, hrn6⟩ := hgz.grid.look hlt
                  have hst1 := (up_steps hup).1
                  have hsz := hsp.whole HS8.out (.inr (by omega))
                  have hcz := hsp.whole HC8.out (.inl (by omega))
                  have hez := hsp.fresh HE8.out (.inr (by omega))
                  obtain ⟨e0, e1, -, -⟩ := hsz.two
                  have hlz := hsz.lt
                  obtain ⟨y, hy⟩ : ∃ y, num (flipped (digits n p) rs[i].xs) (!topBit n p).toNat = y := ⟨_, rfl⟩
                  obtain ⟨l, hl⟩ : ∃ l, rs[i].xs = l := ⟨_, rfl⟩
                  rw [hl] at hy hRX hst1 hrow6 hrl6
                  rw [hy] at hRX
                  obtain ⟨T, hT⟩ : ∃ T, slowOf xs l = T := ⟨_, rfl⟩
                  rw [hT] at hRX
                  have HY9 := Lib.hid hy
                  have HT9 := Lib.hid hT
                  have HRX := Lib.hid hRX
                  have HROW := Lib.hid hrow6
                  have HLR := Lib.hid hrl6
                  have H68 := Lib.hid hf
                  have HSP := Lib.hid hsp
                  have HCZ := Lib.hid hcz
                  have HCE : Hid (∀ j u, (bits (digits n p))[j]? = some u → wv.cell? ⟨bE, oE + j, none⟩ = some u) := fun j u hu => by
                    rcases hez.holds with h | ⟨b9, o9, h9, -, hcell⟩
                    · rw [h] at hu; simp at hu
                    · cases h9; exact hcell j u hu
                  have hT0 : 0 ≤ T ∧ T ≤ 1000 := by
                    rw [← hT]
                    exact slow_boundF HXS.out HXB.out
                  have hT1 := hT0.1
                  have hT2 := hT0.2
                  have hyj : y < k := by
                    have h := num_lt (flipped (digits n p) l) (!topBit n p)
                    rw [flipped_len, HDIG.out, hy] at h
                    rw [HZ.out]
                    exact h
                  obtain ⟨rA, hrA⟩ : ∃ rA, rs[i].A = rA := ⟨_, rfl⟩
                  obtain ⟨rN, hrN⟩ : ∃ rN, rs[i].n = rN := ⟨_, rfl⟩
                  obtain ⟨rC, hrC⟩ : ∃ rC, rs[i].c = rC := ⟨_, rfl⟩
                  rw [hrA, hrN, hrC] at hcell6
                  rw [hrA] at HROW
                  rw [hrN] at HLR hrn6
                  clear hei hlt2 hgz hf hsp hcz hez hsz hT hT0 hy hl hrA hrN hrC hrow6 hrl6 hRX hup
                  have HST1 := Lib.hid hst1
                  clear hst1
                  go_wp2_with fail
                  refine (paCross_any bE oE n r rA rN rC (digits n p) l (topBit n p) wv HCE.out HDIG.out (by omega) (by omega) HROW.out HLR.out hrn6 HST1.out).mono ?_
                  rintro e wa ⟨A3, c3, rfl, hf3, hba⟩
                  go_wp2_with fail
                  refine (seIndex_any A3 (flipped (digits n p) l).length c3 (flipped (digits n p) l) (!topBit n p) wa hf3.holds rfl (by rw [flipped_len, HDIG.out]; exact hn)).mono ?_
                  rintro e wb ⟨rfl, hbb⟩
                  rw [HY9.out]
                  have hbw := below_then hba hbb hba.size
                  have hFb := H68.out.below hbw
                  have hSPb : Span gF (gF + 1) w8 wb := HSP.out.trans (Span.of_below hbw _ _)
                  have hCb := HCZ.out.below hbw
                  have HROWb := Lib.hid (HROW.out.below hbw)
                  have hol2 : (relax m (es.take i) o).length = k := by rw [relax_len]; exact hol
                  have hpm : (relax m (es.take i) o).getD p (-1) = m := by
                    have h := relax_low (m := m) (es.take i) o p (fun e he => by
                      obtain ⟨k9, hk9, rfl⟩ := List.getElem_of_mem (List.mem_of_mem_take he)
                      have h9 := HES.out k9 (by rw [HRL.out]; exact hk9)
                      rw [h9.2.1]
                      exact (slow_boundF HXS.out HXB.out).1) (by omega) (by rw [hm]; exact hp0) (by rw [hm]; exact Int.le_refl _)
                    rw [h]
                    exact hm
                  clear hba hbb hbw hf3 e0 e1 hlz hcell6 hbl6
                  have f0 := num_cellF (v := m) hFb (i := p) (by omega) (by rw [getD_m1 (by omega)]; exact hpm)
                  obtain ⟨k0, k1⟩ := hCb.cells2
                  have hkl := hCb.lt
                  have hfl := hFb.lt
                  have hpj : p < k := hpk
                  have HFb := Lib.hid hFb
                  have HSPb := Lib.hid hSPb
                  have HCb := Lib.hid hCb
                  have HOL2 := Lib.hid hol2
                  have HPM0 : Hid ((relax m (es.take i) o).getD p 0 = m) := by show _ = _; rw [getD_m1 (by omega)]; exact hpm
                  have hwr9 : IntKind.i64.wrap (m + T) = m + T := IntWalk.i64_in _ (by omega)
                  clear hFb hSPb hCb hol2 hpm
                  go_wp2_with fail
                  go_region_held3 (fun w' => w'.cell? ⟨gF, p, none⟩ = some (.int .i64 m) ∧ w'.cell? ⟨w.heap.size, 0, none⟩ = some (.slice A n c) ∧ w'.cell? ⟨w.heap.size, 1, none⟩ = some (.int .i64 (q : Int))) (go_keep)
                    (first | (go_at_call 114; refine (paTime_any A rA n c rN rC xs l (q : Int) wb.drew (by exact (HA.out.below (below_spanF HB8.out HSPb.out (by omega))).drew) HX.out (by exact HROWb.out.drew) HLR.out hrn6 (by omega) HST1.out).mono ?_; rintro e wd ⟨rfl, hbd⟩; rw [HT9.out]; have hbd2 : Below wb.heap.size wb wd := (below_then (Below.refl wb.heap.size wb).drew hbd (Nat.le_refl _)); have HBD2 := Lib.hid hbd2; have f2 := num_cellF (v := m) (HFb.out.below hbd2) (i := p) (by rw [HOL2.out]; exact hpj) HPM0.out; have k2 := (HCb.out.below hbd2).cells2.1; have k3 := (HCb.out.below hbd2).cells2.2; have hfl2 := (HFb.out.below hbd2).lt; clear hbd hbd2))
                  have hF2 := HFb.out.below HBD2.out
                  obtain ⟨v, hv⟩ : ∃ v, (relax m (es.take i) o).getD y (-1) = v := ⟨_, rfl⟩
                  have g0 := num_cellF (v := v) hF2 (i := y) (by rw [HOL2.out]; exact hyj) (by rw [getD_m1 (by rw [HOL2.out]; exact hyj)]; exact hv)
                  have g1 := hF2.open_ y
                  have hRX9 := HRX.out
                  rw [relax1, hv] at hRX9
                  have HSPd : Hid (Span gF (gF + 1) w8 wd) := HSPb.out.trans (Span.of_below HBD2.out _ _)
                  have HF2 := Lib.hid hF2
                  have HF3 : Hid (Whole (wd.setCell ⟨gF, y, none⟩ (.int .i64 (m + T))) gF 3 (nums ((relax m (es.take i) o).set y (m + T))).toArray) := by show Whole _ _ _ _; have h := hF2.set_ y (.int .i64 (m + T)); rw [nums_set] at h; exact h
                  have HSP3 : Hid (Span gF (gF + 1) w8 (wd.setCell ⟨gF, y, none⟩ (.int .i64 (m + T)))) := HSPd.out.trans (span_setF wd gF y _)
                  clear hF2 hv f2 k2 k3 f0 k0 k1
                  have hy0 : (y : Int) < (k : Int) := by omega
                  by_cases h0 : v < 0
                  · have HE1 : Hid (relax m (es.take (i + 1)) o = (relax m (es.take i) o).set y (m + T)) := by show _ = _; rw [hRX9, if_pos (.inl h0)]
                    have hd7 : decide (v < 0) = true := by simpa using h0
                    clear hRX9
                    go_wp2
                    go_roundw
                    case rel => exact ⟨i + 1, by omega, by go_num, by rw [HE1.out]; exact HF3.out, HSP3.out⟩
                    case measure => simp [intOf]; omega
                  · have hd7 : decide (v < 0) = false := by simpa using h0
                    by_cases h2 : m + T < v
                    · have HE1 : Hid (relax m (es.take (i + 1)) o = (relax m (es.take i) o).set y (m + T)) := by show _ = _; rw [hRX9, if_pos (.inr h2)]
                      have hd8 : decide (m + T < v) = true := by simpa using h2
                      clear hRX9
                      go_wp2
                      go_roundw
                      case rel => exact ⟨i + 1, by omega, by go_num, by rw [HE1.out]; exact HF3.out, HSP3.out⟩
                      case measure => simp [intOf]; omega
                    · have HE1 : Hid (relax m (es.take (i + 1)) o = relax m (es.take i) o) := by show _ = _; rw [hRX9, if_neg (fun h => h.elim h0 h2)]
                      have hd8 : decide (m + T < v) = false := by simpa using h2
                      clear hRX9
                      go_wp2
                      go_roundw
                      case rel => exact ⟨i + 1, by omega, by go_num, by rw [HE1.out]; exact HF2.out, HSPd.out⟩
                      case measure => simp [intOf]; omega
                · have hd2 : decide ((i : Int) < (rs.length : Int)) = false := by simp; omega
                  have hir : i = rs.length := by omega
                  rw [hir, HRL.out, List.take_length, HE0.out] at hf
                  have H68 := Lib.hid hf
                  have HSP := Lib.hid hsp
                  have HGG : Hid (∃ gh, gh < gk ∧ (done.set p true).count true + gh = k) := by
                    have h := HCN.out
                    have h2 := HCD.out
                    have h3 := List.count_le_length (a := true) (l := done.set p true)
                    rw [List.length_set] at h3
                    exact ⟨gk - 1, by omega, by omega⟩
                  have HBN : Hid (∀ i, -1 ≤ (relax m (legsS xs n q (stateS n p)) o).getD i (-1) ∧ (relax m (legsS xs n q (stateS n p)) o).getD i (-1) ≤ 1000 * ((done.set p true).count true : Nat)) := fun i => by
                    have h2 := HCD.out
                    have hmp := (HBD.out p).2
                    rw [hm] at hmp
                    by_cases hi2 : i < o.length
                    · rcases relax_from m (legsS xs n q (stateS n p)) o i hi2 with h | ⟨e, he, -, h⟩
                      · rw [h]; have := HBD.out i; omega
                      · rw [h]
                        simp only [legsS, List.mem_map] at he
                        obtain ⟨l, -, rfl⟩ := he
                        have := slow_boundF (l := l) HXS.out HXB.out
                        show -1 ≤ m + slowOf xs l ∧ m + slowOf xs l ≤ _
                        omega
                    · rw [List.getD_eq_getElem?_getD, List.getElem?_eq_none (by rw [relax_len]; omega)]
                      show (-1 : Int) ≤ -1 ∧ (-1 : Int) ≤ _
                      omega
                  clear hf hsp hir
                  go_wp2
                  obtain ⟨gh, hg1, hg2⟩ := HGG.out
                  go_roundg gh
                  case measure => exact hg1
                  case rel => exact ⟨done.set p true, relax m (legsS xs n q (stateS n p)) o, hg2, HST2.out, HBN.out, ⟨H68.out, HSP.out.whole HD8.out (.inr (by omega)), HSP.out.whole HC8.out (.inl (by omega)), below_spanF HB8.out HSP.out (by omega), by have := HSP.out.size; omega⟩⟩
end Go.Proofs.Ytlpeimlbpiofkaa

namespace Go.Proofs.Ytlpeimlbpiofkaa
open Go.RowKit

section
variable {α : Type}
/-- A way from a place to another with its time. -/
inductive Way (E : α → Int → α → Prop) (src : α) : α → Int → Prop
  | start : Way E src src 0
  | step {x y : α} {a t : Int} : Way E src x a → E x t y → Way E src y (a + t)
theorem way_low {E : α → Int → α → Prop} {src : α} (hE : ∀ x t y, E x t y → 1 ≤ t) {y : α} {c : Int} (h : Way E src y c) : 0 ≤ c := by
  induction h with
  | start => exact Int.le_refl _
  | step h he ih => have := hE _ _ _ he; omega
theorem way_least {E : α → Int → α → Prop} {src : α} (hE : ∀ x t y, E x t y → 1 ≤ t) {y : α} (h : ∃ c, Way E src y c) : ∃ c, Way E src y c ∧ ∀ d, Way E src y d → c ≤ d := by
  have key : ∀ (n : Nat) (c : Int), c ≤ n → Way E src y c → ∃ c, Way E src y c ∧ ∀ d, Way E src y d → c ≤ d := by
    intro n
    induction n using Nat.strongRecOn with
    | _ n ih =>
      intro c hc hw
      by_cases hm : ∃ d, Way E src y d ∧ d < c
      · obtain ⟨d, hd, hlt⟩ := hm
        have h0 := way_low hE hd
        exact ih d.toNat (by omega) d (by omega) hd
      · refine ⟨c, hw, fun d hd => ?_⟩
        by_cases hlt : d < c
        · exact absurd ⟨d, hd, hlt⟩ hm
        · omega
  obtain ⟨c, hc⟩ := h
  have h0 := way_low hE hc
  exact key c.toNat c (by omega) hc
theorem least_exists {E : α → Int → α → Prop} (src : α) (hE : ∀ x t y, E x t y → 1 ≤ t) : ∃ d, Least E src d := by
  classical
  refine ⟨fun y => if h : ∃ c, Way E src y c then some (Classical.choose (way_least hE h)) else none, ?_⟩
  have hat : ∀ y b, (if h : ∃ c, Way E src y c then some (Classical.choose (way_least hE h)) else none) = some b → Way E src y b ∧ ∀ d, Way E src y d → b ≤ d := by
    intro y b h
    split at h
    · rename_i hc
      obtain rfl := Option.some.inj h
      exact Classical.choose_spec (way_least hE hc)
    · cases h
  have hof : ∀ y c, Way E src y c → ∃ b, (if h : ∃ c, Way E src y c then some (Classical.choose (way_least hE h)) else none) = some b ∧ b ≤ c := by
    intro y c hc
    exact ⟨_, dif_pos ⟨c, hc⟩, (Classical.choose_spec (way_least hE ⟨c, hc⟩)).2 c hc⟩
  refine ⟨?_, fun x t y a hx he => ?_, fun y b hy => ?_, fun y b hy => way_low hE (hat y b hy).1⟩
  · obtain ⟨b, hb, hle⟩ := hof src 0 .start
    have h0 := way_low hE (hat src b hb).1
    obtain rfl : b = 0 := by omega
    exact hb
  · exact hof y (a + t) (.step (hat x a hx).1 he)
  · obtain ⟨hw, hmin⟩ := hat y b hy
    cases hw with
    | start => exact .inl ⟨rfl, rfl⟩
    | @step x _ a t hwx he =>
      obtain ⟨a', ha', hle⟩ := hof x a hwx
      have h2 := hmin _ (.step (hat x a' ha').1 he)
      obtain rfl : a' = a := by omega
      exact .inr ⟨x, t, a', ha', he, rfl⟩
end
theorem leastD_spec {α : Type} [DecidableEq α] {E : α → Int → α → Prop} {src : α} (hE : ∀ x t y, E x t y → 1 ≤ t) : Least E src (leastD E src) :=
  Classical.epsilon_spec (p := fun d => Least E src d) (least_exists src hE)

/-- The least time from one state of a party to another. -/
noncomputable def timeST (xs : List Int) (n q : Nat) (a b : List Bool × Bool) : Option Int := leastD (Leg xs n (q : Int)) a b
section
variable {xs : List Int} {n q : Nat} {a b : List Bool × Bool}
theorem timeST_least (hx : xs.length = n) (hxs : ∀ y ∈ xs, 1 ≤ y) : Least (Leg xs n (q : Int)) a (timeST xs n q a) := leastD_spec fun _ _ _ h => leg_time hx hxs h
theorem time_turn (hx : xs.length = n) (hxs : ∀ y ∈ xs, 1 ≤ y) : timeST xs n q a b = timeST xs n q b a := leg_turn hx hxs (timeST_least hx hxs) (timeST_least hx hxs)
theorem time_low (hx : xs.length = n) (hxs : ∀ y ∈ xs, 1 ≤ y) {v : Int} (h : timeST xs n q a b = some v) : 0 ≤ v := (timeST_least hx hxs).low _ _ h
theorem time_len (hx : xs.length = n) (hxs : ∀ y ∈ xs, 1 ≤ y) (ha : a.1.length = n) {v : Int} (h : timeST xs n q a b = some v) : b.1.length = n := by
  rcases (timeST_least hx hxs).pred _ _ h with ⟨rfl, -⟩ | ⟨x, t, c, -, ⟨h1, l, -, -, rfl⟩, -⟩
  · exact ha
  · show (flipped x.1 l).length = n
    rw [flipped_len]
    exact h1
/-- The program's map tells it. -/
theorem party_at (hx : xs.length = n) (hn : n ≤ 8) (hxs : ∀ y ∈ xs, 1 ≤ y) (ha : a.1.length = n) (hb : b.1.length = n) : partyD xs n q (codeOf a.1 a.2) (codeOf b.1 b.2) = timeST xs n q a b := by
  have hL := timeST_least (xs := xs) (n := n) (q := q) (a := a) hx hxs
  have hL' := hL
  rw [leg_same] at hL
  obtain ⟨u1, u2⟩ := unS_of (n := n) (a := a) ha
  have hL2 := least_numT hn (fun l hl => up_all hl) u2 (fun c v hc => time_len hx hxs ha hc) (by rw [u1]; exact hL)
  rw [partyD, leastD_of (legE_party hx hxs) hL2]
  obtain ⟨v1, v2⟩ := unS_of (n := n) (a := b) hb
  rw [byNum, if_pos v2, v1]
theorem party_out (hx : xs.length = n) (hn : n ≤ 8) (hxs : ∀ y ∈ xs, 1 ≤ y) (ha : a.1.length = n) {x : Nat} {v : Int} (h : partyD xs n q (codeOf a.1 a.2) x = some v) : x / 2 < 2 ^ n := by
  have hL := timeST_least (xs := xs) (n := n) (q := q) (a := a) hx hxs
  rw [leg_same] at hL
  obtain ⟨u1, u2⟩ := unS_of (n := n) (a := a) ha
  have hL2 := least_numT hn (fun l hl => up_all hl) u2 (fun c v hc => time_len hx hxs ha hc) (by rw [u1]; exact hL)
  rw [partyD, leastD_of (legE_party hx hxs) hL2] at h
  exact (byNum_some.1 h).1
/-- The model's list tells it. -/
theorem far_at {done : List Bool} {o : List Int} (hx : xs.length = n) (hxs : ∀ y ∈ xs, 1 ≤ y) (ha : a.1.length = n) (hb : b.1.length = n)
    (hL : Least (Leg xs n q) (stateS n (num a.1 a.2.toNat)) (settledS n done o)) (hno : ∀ i, i < 2 ^ (n + 1) → done.getD i false = false → o.getD i (-1) < 0) (hm : ∀ i, -1 ≤ o.getD i (-1)) :
    o.getD (num b.1 b.2.toNat) (-1) = (timeST xs n q a b).getD (-1) := by
  have hs : stateS n (num a.1 a.2.toNat) = a := stateS_num ha
  rw [hs] at hL
  have he : timeST xs n q a = settledS n done o := leastD_of (fun _ _ _ h => leg_time hx hxs h) hL
  rw [he]
  have hlt : num b.1 b.2.toNat < 2 ^ (n + 1) := by have h := num_lt b.1 b.2; rw [hb] at h; exact h
  cases hd : done.getD (num b.1 b.2.toNat) false
  · have h1 := hno _ hlt hd
    have h2 := hm (num b.1 b.2.toNat)
    rw [settledS, if_neg]
    · show _ = (-1 : Int)
      omega
    · rintro ⟨-, h3⟩
      rw [show numS b = num b.1 b.2.toNat from rfl, hd] at h3
      cases h3
  · rw [settled_iff.2 ⟨hb, hd, rfl⟩]
    rfl
end
end Go.Proofs.Ytlpeimlbpiofkaa

namespace Go.Proofs.Ytlpeimlbpiofkaa
open Go.RowKit

/-- The least time of a plan, or -1. -/
noncomputable def leastP (xs : List Int) (n q : Nat) : Int := (timeST xs n q (falses n, false) (trues n, true)).getD (-1)
def Two (g : Nat) (x y : Value) (w : World) : Prop := w.cell? ⟨g, 0, none⟩ = some x ∧ w.cell? ⟨g, 1, none⟩ = some y
theorem two_of {g : Nat} {t : TypeId} {x y : Value} {w : World} (h1 : Whole w g t #[x, y]) : Two g x y w := ⟨h1.cell 0, h1.cell 1⟩

set_option maxHeartbeats 12800000 in
set_option maxRecDepth 100000 in
set_option linter.unusedVariables false in
set_option linter.unusedSimpArgs false in
theorem seLeast_any (A : Option Addr) (n c q : Nat) (xs : List Int) (w : World) (hA0 : Holds w A (nums xs)) (hx : xs.length = n) (h1 : 1 ≤ n) (hn : n ≤ 8) (hq8 : q ≤ 8) (hxs : ∀ y ∈ xs, 1 ≤ y ∧ y ≤ 1000) :
    Calls Try.prog 61 #[.agg #[.slice A n c, .int .i64 (q : Int)]] w fun e w' => e = .returned (.int .i64 (leastP xs n q)) ∧ Below w.heap.size w w' := by
  have hA := Lib.hid hA0
  have HX := Lib.hid hx
  have HXS := Lib.hid hxs
  have HFL : Hid ((falses n).length = n) := by show _ = _; simp [falses]
  have HTL : Hid ((trues n).length = n) := by show _ = _; simp [trues]
  have hq := Whole.fresh w 28 #[.slice A n c, .int .i64 (q : Int)]
  have ht := below1 w (.cells #[.slice A n c, .int .i64 (q : Int)] 28)
  clear hA0 hx hxs
  go_enter Try.func61, Try.ntmps61
  go_wp2_with fail
  refine wp_region_held_drew (S := (Two w.heap.size (.slice A n c) (.int .i64 (q : Int)))) (by kernel_rfl) (two_of hq.drew) (fun hHeld => ?_)
  replace hq := hq.drew
  replace ht := ht.drew
  generalize World.drew (w.alloc (.cells #[.slice A n c, .int .i64 (q : Int)] 28)) = wd at hq ht hHeld ⊢
  refine wpAnyH_take (i := 0) (v := ?_) rfl (by kernel_rfl) (by kernel_rfl) (by kernel_rfl) (fun _ _ _ h => h) (Or.inl ⟨rfl, ?_⟩) hHeld ?_
  rotate_left
  · intro w' hS; obtain ⟨s0, s1⟩ := hS; go_simp <;> with_reducible rfl
  simp only [Act.put, List.getElem_toArray, List.getElem_cons_succ, List.getElem_cons_zero, List.setIfInBounds_toArray, List.set_cons_succ, List.set_cons_zero]
  refine wpAnyH_take (i := 1) (v := ?_) rfl (by kernel_rfl) (by kernel_rfl) (by kernel_rfl) (fun _ _ _ h => h) (Or.inl ⟨rfl, ?_⟩) hHeld ?_
  rotate_left
  · intro w' hS; obtain ⟨s0, s1⟩ := hS; go_simp <;> with_reducible rfl
  simp only [Act.put, List.getElem_toArray, List.getElem_cons_succ, List.getElem_cons_zero, List.setIfInBounds_toArray, List.set_cons_succ, List.set_cons_zero]
  refine wpAnyH_take (i := 4) (v := ?_) rfl (by kernel_rfl) (by kernel_rfl) (by kernel_rfl) (fun _ _ _ h => h) (Or.inl ⟨rfl, ?_⟩) hHeld ?_
  rotate_left
  · intro w' hS; obtain ⟨s0, s1⟩ := hS; go_simp <;> with_reducible rfl
  simp only [Act.put, List.getElem_toArray, List.getElem_cons_succ, List.getElem_cons_zero, List.setIfInBounds_toArray, List.set_cons_succ, List.set_cons_zero]
  refine wpAnyH_ready (rs := [2]) (by kernel_rfl) (by simp) (AllReadyH.cons rfl (fun K hK => ?_) AllReadyH.nil)
  go_simp
  refine (paFirst_any A n c (q : Int) _ (by omega)).mono ?_
  rintro e wdf ⟨rfl, hw9, hb⟩
  obtain ⟨g1, hg1⟩ : ∃ g, g = wd.heap.size + 1 + 1 := ⟨_, rfl⟩
  rw [← hg1] at hw9 ⊢
  replace hq := hq.below hb
  replace ht := below_then ht hb ht.size
  clear hb
  have hB1 : Holds wdf (some ⟨g1, 0, none⟩) (bits (falses n)) := (Fresh.of_whole (lo := 0) (hi := wdf.heap.size) hw9 (Nat.zero_le _) hw9.lt).holds
  clear hw9 hg1
  refine hK.out _ _ (two_of hq) (fun hHeld => ?_)
  clear hK K
  try simp only [Act.put, List.getElem_toArray, List.getElem_cons_succ, List.getElem_cons_zero, List.setIfInBounds_toArray, List.set_cons_succ, List.set_cons_zero]
  refine wpAnyH_ready (rs := [3]) (by kernel_rfl) (by simp) (AllReadyH.cons rfl (fun K hK => ?_) AllReadyH.nil)
  go_simp
  refine (seFar_any A (some ⟨g1, 0, none⟩) n c n q xs (falses n) false _ (hA.out.below ht) hB1 HX.out HFL.out h1 hn hq8 HXS.out).mono ?_
  rintro e wdfs ⟨g, done, o, rfl, hol, hFr0, hL, hno, hbd, -, hb⟩
  replace hq := hq.below hb
  replace hB1 := hB1.below hb
  replace ht := below_then ht hb ht.size
  clear hb
  have hFr := hFr0
  have HOL := Lib.hid hol
  have HFA : Hid (o.getD (num (trues n) true.toNat) (-1) = leastP xs n q) := by show _ = _; have h := far_at (a := (falses n, false)) (b := (trues n, true)) HX.out (fun y hy => (HXS.out y hy).1) HFL.out HTL.out hL hno (fun i => (hbd i).1); exact h
  have HNB := Lib.hid (hbd (num (trues n) true.toNat))
  clear hFr0 hol hL hno hbd
  refine hK.out _ _ (two_of hq) (fun hHeld => ?_)
  clear hK K
  try simp only [Act.put, List.getElem_toArray, List.getElem_cons_succ, List.getElem_cons_zero, List.setIfInBounds_toArray, List.set_cons_succ, List.set_cons_zero]
  refine wpAnyH_ready (rs := [5]) (by kernel_rfl) (by simp) (AllReadyH.cons rfl (fun K hK => ?_) AllReadyH.nil)
  go_simp
  refine (paLast_any A n c (q : Int) _ (by omega)).mono ?_
  rintro e wdfsl ⟨A2, c2, rfl, hw9, hb⟩
  rw [HTL.out]
  replace hq := hq.below hb
  replace hB1 := hB1.below hb
  replace hFr := hFr.below hb
  replace ht := below_then ht hb ht.size
  clear hb
  have hB2 := hw9.holds
  clear hw9
  refine hK.out _ _ (two_of hq) (fun hHeld => ?_)
  clear hK K
  try simp only [Act.put, List.getElem_toArray, List.getElem_cons_succ, List.getElem_cons_zero, List.setIfInBounds_toArray, List.set_cons_succ, List.set_cons_zero]
  refine wpAnyH_ready (rs := [6]) (by kernel_rfl) (by simp) (AllReadyH.cons rfl (fun K hK => ?_) AllReadyH.nil)
  go_simp
  refine (seIndex_any A2 n c2 (trues n) true _ hB2 HTL.out hn).mono ?_
  rintro e wdfsli ⟨rfl, hb⟩
  obtain ⟨y, hy⟩ : ∃ y, num (trues n) true.toNat = y := ⟨_, rfl⟩
  have HY := Lib.hid hy
  rw [hy]
  clear hy
  replace hq := hq.below hb
  replace hB1 := hB1.below hb
  replace hB2 := hB2.below hb
  replace hFr := hFr.below hb
  replace ht := below_then ht hb ht.size
  clear hb
  refine hK.out _ _ (two_of hq) (fun hHeld => ?_)
  clear hK K
  try simp only [Act.put, List.getElem_toArray, List.getElem_cons_succ, List.getElem_cons_zero, List.setIfInBounds_toArray, List.set_cons_succ, List.set_cons_zero]
  refine wpAnyH_ready (rs := [7]) (by kernel_rfl) (by simp) (AllReadyH.cons rfl (fun K hK => ?_) AllReadyH.nil)
  have HYZ : Hid (y < o.length) := by rw [← HY.out]; show _ < _; rw [HOL.out]; have h := num_lt (trues n) true; rw [HTL.out] at h; exact h
  have hyz := HYZ.out
  have hyz2 : (y : Int) < (o.length : Int) := by omega
  have hfl := hFr.lt
  go_simp
  refine hK.out _ _ (two_of hq) (fun hHeld => ?_)
  clear hK K
  try simp only [Act.put, List.getElem_toArray, List.getElem_cons_succ, List.getElem_cons_zero, List.setIfInBounds_toArray, List.set_cons_succ, List.set_cons_zero]
  refine wpAnyH_ready (rs := [8]) (by kernel_rfl) (by simp) (AllReadyH.cons rfl (fun K hK => ?_) AllReadyH.nil)
  have k0 := num_cellF (v := leastP xs n q) hFr (i := y) HYZ.out (by rw [getD_m1 HYZ.out, ← HY.out]; exact HFA.out)
  go_simp
  refine hK.out _ _ (two_of hq) (fun hHeld => ?_)
  clear hK K
  try simp only [Act.put, List.getElem_toArray, List.getElem_cons_succ, List.getElem_cons_zero, List.setIfInBounds_toArray, List.set_cons_succ, List.set_cons_zero]
  refine wpAnyH_take (i := 9) (v := ?_) rfl (by kernel_rfl) (by kernel_rfl) (by kernel_rfl) (fun _ _ _ h => h) (Or.inl ⟨rfl, ?_⟩) hHeld ?_
  rotate_left
  · intro w' hS; obtain ⟨s0, s1⟩ := hS; go_simp <;> with_reducible rfl
  simp only [Act.put, List.getElem_toArray, List.getElem_cons_succ, List.getElem_cons_zero, List.setIfInBounds_toArray, List.set_cons_succ, List.set_cons_zero]
  refine wpAnyH_done (by kernel_rfl) ?_ _
  clear hHeld
  have HTT := Lib.hid ht
  clear ht hq hFr hB1 hB2
  go_wp2
  go_ret
  exact ⟨rfl, HTT.out⟩
end Go.Proofs.Ytlpeimlbpiofkaa

namespace Go.Proofs.Ytlpeimlbpiofkaa
open Go.RowKit Go.Maps Go.WideShapes

/-- What is told, with more. -/
def settle (L : List Nat) (m : Int) (R : Nat → Option Int) : Nat → Option Int := fun x => if x ∈ L then some m else R x
theorem settle_nil (m : Int) (R : Nat → Option Int) : settle [] m R = R := by funext x; simp [settle]
theorem settle_next {L : List Nat} {m : Int} {R : Nat → Option Int} {j : Nat} (h : j < L.length) : upd (settle (L.take j) m R) L[j] m = settle (L.take (j + 1)) m R := by
  have hm : ∀ x, x ∈ L.take (j + 1) ↔ x ∈ L.take j ∨ x = L[j] := fun x => by rw [List.take_succ_eq_append_getElem h, List.mem_append, List.mem_singleton]
  funext x
  by_cases e : x = L[j]
  · subst e
    rw [upd_same, settle, if_pos ((hm _).2 (.inr rfl))]
  · rw [upd_other _ _ e, settle, settle]
    by_cases hx : x ∈ L.take j
    · rw [if_pos hx, if_pos ((hm _).2 (.inl hx))]
    · rw [if_neg hx, if_neg (fun hh => ((hm _).1 hh).elim hx e)]
noncomputable def srcMap (src j : Nat) : Nat → Option Int := if j = 0 then fun _ => none else upd (fun _ => none) src 0
theorem grown_below {a b c : World} {row : Nat} (h : Below a.heap.size a b) (hg : b.grownBy c (some row)) (hB : a.heap.size ≤ row) : Below a.heap.size a c := h.grown hg h.size (fun x hx => by have := Option.some.inj hx; omega)
/-- The map of what waits, in the midst of a round. -/
noncomputable def waitW (T : List Int → Int) (Ls : List (List Int)) (L : List Nat) (m : Int) (R W : Nat → Option Int) (i : Nat) (es : List (Nat × Int)) : Nat → Option Int := waitAll m (settle L m R) (esOf T 4 Ls (L.take i) ++ es) (gone L W)
theorem waitW_start {T : List Int → Int} {Ls : List (List Int)} {L : List Nat} {m : Int} {R W : Nat → Option Int} : waitW T Ls L m R W 0 [] = gone L W := by simp [waitW, esOf, waitAll]
theorem waitW_row {T : List Int → Int} {Ls : List (List Int)} {L : List Nat} {m : Int} {R W : Nat → Option Int} {i : Nat} (h : i < L.length) : waitW T Ls L m R W i (arrOf T 4 Ls L[i]) = waitW T Ls L m R W (i + 1) [] := by
  rw [waitW, waitW, es_next h, List.append_nil]
theorem waitW_next {T : List Int → Int} {Ls : List (List Int)} {L : List Nat} {m : Int} {R W : Nat → Option Int} {i j : Nat} {es : List (Nat × Int)} (h : j < es.length) : waitW T Ls L m R W i (es.take (j + 1)) = wait1 m (settle L m R) (waitW T Ls L m R W i (es.take j)) es[j] := by
  rw [waitW, List.take_succ_eq_append_getElem h, ← List.append_assoc, waitAll_snoc]
  rfl
/-- Between two rounds. -/
def TimesJ (T : List Int → Int) (Ls : List (List Int)) (src gB b : Nat) (w : World) (n : Nat) (a' : Act) (w' : World) : Prop :=
  ∃ (R W : Nat → Option Int), TimesSt (LegE T 4 Ls) (sts 4) src 1000000 R W ∧ n + countIs (sts 4) R = 512 ∧ PlaceMap w' w.heap.size R ∧ PlaceMap w' (w.heap.size + 1) W ∧ (∃ x c, W x = some c) ∧ Below w.heap.size w w' ∧
    ∃ (u2 u3 u7 u8 u9 u10 u11 u12 u13 u14 u15 u16 u17 u18 u19 u20 u21 u22 u23 u24 u25 u26 u27 u28 u29 u30 u31 u32 u33 u34 u35 u36 u37 u38 u39 u40 u41 u42 u43 u44 u45 u46 u47 u48 u49 u50 u51 u52 u53 u54 u55 u56 u57 u58 u59 u60 u61 u62 u63 u64 u65 u66 u67 u68 u69 u70 u71 u72 u73 u74 u75 u76 u77 u78 u79 u80 u81 u82 u83 u84 u85 u86 u87 u88 u89 u90 u91 u92 u93 u94 u95 u96 u97 : Value), a' = { tmps := #[.func (.func 142) #[] #[.pointer (some ⟨gB, 0, none⟩)], .slice (some ⟨b, 0, none⟩) 1 1, u2, u3, .map none, .map (some w.heap.size), .map (some (w.heap.size + 1)), u7, u8, u9, u10, u11, u12, u13, u14, u15, u16, u17, u18, u19, u20, u21, u22, u23, u24, u25, u26, u27, u28, u29, u30, u31, u32, u33, u34, u35, u36, u37, u38, u39, u40, u41, u42, u43, u44, u45, u46, u47, u48, u49, u50, u51, u52, u53, u54, u55, u56, u57, u58, u59, u60, u61, u62, u63, u64, u65, u66, u67, u68, u69, u70, u71, u72, u73, u74, u75, u76, u77, u78, u79, u80, u81, u82, u83, u84, u85, u86, u87, u88, u89, u90, u91, u92, u93, u94, u95, u96, u97], defers := [] }
theorem count_le (R : Nat → Option Int) : countIs (sts 4) R ≤ 512 := by
  have h := List.length_filter_le (fun a => (R a).isSome) (sts 4)
  have h2 : (sts 4).length = 512 := by simp [sts]
  unfold countIs
  omega
theorem count_none {R : Nat → Option Int} (h : countIs (sts 4) R = 0) (hd : ∀ x, R x ≠ none → x ∈ sts 4) : ∀ x, R x = none := by
  intro x
  cases hx : R x with
  | none => rfl
  | some v =>
    have hm : x ∈ (sts 4).filter fun a => (R a).isSome := List.mem_filter.2 ⟨hd x (by rw [hx]; simp), by simp [hx]⟩
    have := List.length_pos_of_mem hm
    unfold countIs at h
    omega
theorem count_some {R : Nat → Option Int} (h : countIs (sts 4) R ≠ 0) : ∃ x c, R x = some c := by
  have h2 : 0 < ((sts 4).filter fun a => (R a).isSome).length := by unfold countIs at h; omega
  obtain ⟨x, hx⟩ := List.exists_mem_of_length_pos h2
  obtain ⟨c, hc⟩ := Option.isSome_iff_exists.1 (List.mem_filter.1 hx).2
  exact ⟨x, c, hc⟩
/-- What leastTimes hands back. -/
def TimesPost (M : Nat → Option Int) (w : World) (e : Ending) (w' : World) : Prop := ∃ m, e = .returned (.map (some m)) ∧ PlaceMap w' m M ∧ Below w.heap.size w w'

set_option maxHeartbeats 12800000 in
set_option maxRecDepth 100000 in
set_option linter.unusedSimpArgs false in
theorem leastTimes_any (T : List Int → Int) (gB lo b : Nat) (E : Option Addr) (c : Nat) (Ls : List (List Int)) (src : Nat) (w : World) (hF : ArrFn w T gB lo E c Ls) (hLs : Ls.length ≤ 255) (hup : ∀ l ∈ Ls, l ∈ upLists (2 * 4) (2 * 4)) (hT : ∀ l ∈ Ls, 1 ≤ T l ∧ T l ≤ 1000000) (hsrc : src ∈ sts 4) (hrow : Whole w b 75 (plcC 4 src)) :
    Calls Try.prog 117 #[arrFnV gB, .slice (some ⟨b, 0, none⟩) 1 1] w (TimesPost (leastD (LegE T 4 Ls) src) w) := by
  have hmm := @run_makeMap Try.prog
  have HFN := Lib.hid hF
  have HUP := Lib.hid hup
  have HTT := Lib.hid hT
  have HLS := Lib.hid hLs
  have HSD := Lib.hid hsrc
  have HEE := Lib.hid (legE_bound (k := 4) hT)
  have H1 := Lib.hid ((MapIs.made w Try.prog 75 3 (plcL 4) (sts 4)).alloc (.map #[] 0))
  have h2 := MapIs.made (w.alloc (.map #[] 0)) Try.prog 75 3 (plcL 4) (sts 4)
  rw [World.size_alloc] at h2
  have H2 := Lib.hid h2
  have HB := Lib.hid (below2 w (.map #[] 0) (.map #[] 0))
  have HRW := Lib.hid ((hrow.alloc (.map #[] 0)).alloc (.map #[] 0))
  have hbl := hrow.lt
  clear hF hup hT hLs hsrc h2 hrow
  unfold arrFnV
  go_enter Try.func117, Try.ntmps117
  go_wp2
  refine wp_scope_again 0 (TimesJ T Ls src gB b w) rfl ?_ ?_
  · rintro n a w0 ⟨R, W, hst, hn, hR, hW, hne, hb, u2, u3, u7, u8, u9, u10, u11, u12, u13, u14, u15, u16, u17, u18, u19, u20, u21, u22, u23, u24, u25, u26, u27, u28, u29, u30, u31, u32, u33, u34, u35, u36, u37, u38, u39, u40, u41, u42, u43, u44, u45, u46, u47, u48, u49, u50, u51, u52, u53, u54, u55, u56, u57, u58, u59, u60, u61, u62, u63, u64, u65, u66, u67, u68, u69, u70, u71, u72, u73, u74, u75, u76, u77, u78, u79, u80, u81, u82, u83, u84, u85, u86, u87, u88, u89, u90, u91, u92, u93, u94, u95, u96, u97, rfl⟩
    clear H1 H2 HB HRW hmm
    have HST := Lib.hid hst
    have HN := Lib.hid hn
    have HR := Lib.hid hR
    have HB := Lib.hid hb
    have hlR := hR.lt
    have hlW := hW.lt
    have hWpos : Hid (∀ x c, W x = some c → 0 ≤ c ∧ c ≤ 1099511627776) := fun x c hx => by
      have h1 := hst.cap x c (.inr hx)
      have h2 := hst.seek.low x c (.inr hx)
      have h3 := count_le R
      omega
    clear hst hn hR hb
    go_wp2_with fail
    refine (takeSoonest_any (w.heap.size + 1) W w0 hW hWpos.out hne).mono ?_
    rintro e w1 ⟨L, m, A, cL, rfl, hE, hW1, hown, hg⟩
    have hm0 := hE.low
    have hmB : m ≤ 512000000 := by
      obtain ⟨x0, r, e0⟩ := List.exists_cons_of_ne_nil hE.ne
      have h1 := HST.out.cap x0 m (.inr ((hE.mem x0).1 (by rw [e0]; simp)))
      have h3 := count_le R
      omega
    have hLL : L.length ≤ 512 := by
      have h := nodup_le _ _ hE.nodup (fun x hx => hW.out (by rw [(hE.mem x).1 hx]; simp) : ∀ x ∈ L, x ∈ sts 4)
      simpa [sts] using h
    have HWFM : Hid ((Lit.int .i64 m).wf = true) := WalkArith.wf_i64 (by omega)
    have HLD : Hid (∀ x ∈ L, x ∈ sts 4) := fun x hx => hW.out (by rw [(hE.mem x).1 hx]; simp)
    have HWD : Hid (∀ x, W x ≠ none → x ∈ sts 4) := fun x hx => hW.out hx
    have HE := Lib.hid hE
    have HR1 := Lib.hid (HR.out.kept hg (fun e => by have := Option.some.inj e; omega))
    have HW1 := Lib.hid hW1
    have HO1 := Lib.hid hown
    have HB1 := Lib.hid (grown_below HB.out hg (by omega))
    have hz1 : w0.heap.size ≤ w1.heap.size := hg.size
    have hlo : w.heap.size + 1 < w0.heap.size := hlW
    clear hE hW hW1 hown hg hWpos hne hlR hlW
    go_wp2
    go_loopw [40] (fun i wr => ∃ j : Nat, j ≤ L.length ∧ i = .int .i64 j ∧ PlaceMap wr w.heap.size (settle (L.take j) m R) ∧ PlaceMap wr (w.heap.size + 1) (gone L W) ∧ wr.ownsRow (w0.heap.size + 1) 75 9 (.slice A L.length cL) L.length (edgeC 4 L) ∧ Below w.heap.size w wr ∧ w0.heap.size ≤ wr.heap.size) (fun i _ => L.length - (intOf i).toNat)
    case atStart => exact ⟨0, Nat.zero_le _, rfl, by rw [List.take_zero, settle_nil]; exact HR1.out, HW1.out, HO1.out, HB1.out, hz1⟩
    case round =>
      clear HR1 HW1 HO1 HB1 hz1
      obtain ⟨j, hj, rfl, hR, hW, hown, hb, hz⟩ := hrel
      obtain ⟨wo, rfl⟩ : ∃ X : World, X = wr := ⟨_, rfl⟩
      by_cases hlt : j < L.length
      · have hd1 : decide ((j : Int) < (L.length : Int)) = true := by simp; omega
        obtain ⟨g, rfl, hlo2, hgl, p0, p1, p2, p3, p4, p5, p6, p7, p8⟩ := places_row hown hlt
        have hxd : L[j] ∈ sts 4 := HLD.out _ (List.getElem_mem hlt)
        have HNX := Lib.hid (settle_next (m := m) (R := R) hlt)
        obtain ⟨y, hy⟩ : ∃ y, L[j] = y := ⟨_, rfl⟩
        rw [hy] at p0 p1 p2 p3 p4 p5 p6 p7 p8 hxd HNX
        have HRA := Lib.hid (hR.alloc (.cells #[.bool (pf 4 y 0), .bool (pf 4 y 1), .bool (pf 4 y 2), .bool (pf 4 y 3), .bool (pf 4 y 4), .bool (pf 4 y 5), .bool (pf 4 y 6), .bool (pf 4 y 7), .bool (pt y)] 75))
        have HWA := Lib.hid (hW.alloc (.cells #[.bool (pf 4 y 0), .bool (pf 4 y 1), .bool (pf 4 y 2), .bool (pf 4 y 3), .bool (pf 4 y 4), .bool (pf 4 y 5), .bool (pf 4 y 6), .bool (pf 4 y 7), .bool (pt y)] 75))
        have HOA := Lib.hid (hown.alloc (.cells #[.bool (pf 4 y 0), .bool (pf 4 y 1), .bool (pf 4 y 2), .bool (pf 4 y 3), .bool (pf 4 y 4), .bool (pf 4 y 5), .bool (pf 4 y 6), .bool (pf 4 y 7), .bool (pt y)] 75))
        have HBA := Lib.hid (hb.alloc hb.size (.cells #[.bool (pf 4 y 0), .bool (pf 4 y 1), .bool (pf 4 y 2), .bool (pf 4 y 3), .bool (pf 4 y 4), .bool (pf 4 y 5), .bool (pf 4 y 6), .bool (pf 4 y 7), .bool (pt y)] 75))
        obtain ⟨t0, t1, t2, t3, t4, t5, t6, t7, t8⟩ := nine0_of (show Whole (wo.alloc (.cells #[.bool (pf 4 y 0), .bool (pf 4 y 1), .bool (pf 4 y 2), .bool (pf 4 y 3), .bool (pf 4 y 4), .bool (pf 4 y 5), .bool (pf 4 y 6), .bool (pf 4 y 7), .bool (pt y)] 75)) wo.heap.size 75 (plcC 4 y) from Whole.fresh _ _ _)
        clear hy hR hW hown hb
        go_wp2_with (at_mapUpdate; refine wpList_map_put _ rfl _ _ _ rfl (place_keys (by omega)) Try.underlying76 Try.underlying3 (sts_len (by omega)) rfl HRA.out y hxd rfl m HWFM.out rfl ?_; intro w2 hR2 hg2; go_frame)
        have HR2 := Lib.hid (hR2.same HNX.out)
        have HW2 := Lib.hid (HWA.out.kept hg2 (fun e => by have := Option.some.inj e; omega))
        have HO2 := Lib.hid (own_grown HOA.out hg2 (fun g hg e => by have := Option.some.inj e; omega))
        have HB2 := Lib.hid (grown_below HBA.out hg2 (Nat.le_refl _))
        have hz2 : w0.heap.size ≤ w2.heap.size := by have := hg2.size; simp at this; omega
        clear hR2 hg2 t0 t1 t2 t3 t4 t5 t6 t7 t8 p0 p1 p2 p3 p4 p5 p6 p7 p8
        go_roundw
        case rel => exact ⟨j + 1, by omega, by go_num, HR2.out, HW2.out, HO2.out, HB2.out, hz2⟩
        case measure => simp [intOf]; omega
      · obtain rfl : j = L.length := by omega
        have hd1 : decide ((L.length : Int) < (L.length : Int)) = false := by simp
        rw [List.take_length] at hR
        have HR1 := Lib.hid hR
        have HW1 := Lib.hid hW
        have HO1 := Lib.hid hown
        have HB1 := Lib.hid hb
        clear hR hW hown hb
        go_wp2
        go_loopw [50] (fun i wr => ∃ j : Nat, j ≤ L.length ∧ i = .int .i64 j ∧ PlaceMap wr w.heap.size (settle L m R) ∧ PlaceMap wr (w.heap.size + 1) (waitW T Ls L m R W j []) ∧ wr.ownsRow (w0.heap.size + 1) 75 9 (.slice A L.length cL) L.length (edgeC 4 L) ∧ Below w.heap.size w wr ∧ w0.heap.size ≤ wr.heap.size) (fun i _ => L.length - (intOf i).toNat)
        case atStart => exact ⟨0, Nat.zero_le _, rfl, HR1.out, by rw [waitW_start]; exact HW1.out, HO1.out, HB1.out, hz⟩
        case round =>
          clear HR1 HW1 HO1 HB1 hz
          obtain ⟨i, hi, rfl, hR, hW, hown, hb, hz⟩ := hrel
          obtain ⟨wi, rfl⟩ : ∃ X : World, X = wr := ⟨_, rfl⟩
          by_cases hlt : i < L.length
          · have hd1 : decide ((i : Int) < (L.length : Int)) = true := by simp; omega
            obtain ⟨g, rfl, hlo2, hgl, p0, p1, p2, p3, p4, p5, p6, p7, p8⟩ := places_row hown hlt
            have hxd : L[i] ∈ sts 4 := HLD.out _ (List.getElem_mem hlt)
            have HROW := Lib.hid (waitW_row (T := T) (Ls := Ls) (m := m) (R := R) (W := W) hlt)
            obtain ⟨x, hx⟩ : ∃ x, L[i] = x := ⟨_, rfl⟩
            rw [hx] at p0 p1 p2 p3 p4 p5 p6 p7 p8 hxd HROW
            have HRA := Lib.hid (hR.alloc (.cells #[.bool (pf 4 x 0), .bool (pf 4 x 1), .bool (pf 4 x 2), .bool (pf 4 x 3), .bool (pf 4 x 4), .bool (pf 4 x 5), .bool (pf 4 x 6), .bool (pf 4 x 7), .bool (pt x)] 75))
            have HWA := Lib.hid (hW.alloc (.cells #[.bool (pf 4 x 0), .bool (pf 4 x 1), .bool (pf 4 x 2), .bool (pf 4 x 3), .bool (pf 4 x 4), .bool (pf 4 x 5), .bool (pf 4 x 6), .bool (pf 4 x 7), .bool (pt x)] 75))
            have HOA := Lib.hid (hown.alloc (.cells #[.bool (pf 4 x 0), .bool (pf 4 x 1), .bool (pf 4 x 2), .bool (pf 4 x 3), .bool (pf 4 x 4), .bool (pf 4 x 5), .bool (pf 4 x 6), .bool (pf 4 x 7), .bool (pt x)] 75))
            have HBA := Lib.hid (hb.alloc hb.size (.cells #[.bool (pf 4 x 0), .bool (pf 4 x 1), .bool (pf 4 x 2), .bool (pf 4 x 3), .bool (pf 4 x 4), .bool (pf 4 x 5), .bool (pf 4 x 6), .bool (pf 4 x 7), .bool (pt x)] 75))
            have HFA := Lib.hid (HFN.out.below HBA.out)
            have hbw : w.heap.size ≤ wi.heap.size := hb.size
            obtain ⟨t0, t1, t2, t3, t4, t5, t6, t7, t8⟩ := nine0_of (show Whole (wi.alloc (.cells #[.bool (pf 4 x 0), .bool (pf 4 x 1), .bool (pf 4 x 2), .bool (pf 4 x 3), .bool (pf 4 x 4), .bool (pf 4 x 5), .bool (pf 4 x 6), .bool (pf 4 x 7), .bool (pt x)] 75)) wi.heap.size 75 (plcC 4 x) from Whole.fresh _ _ _)
            clear hx hR hW hown hb
            go_wp2_with fail
            have har := arrFn_any T gB lo E c Ls x _ HLS.out HUP.out hxd HFA.out
            unfold plcC place9 at har
            refine har.mono ?_
            clear har
            rintro e w2 ⟨A2, c2, rfl, hown2, hb2⟩
            have HES : Hid (∀ e ∈ arrOf T 4 Ls x, e.1 ∈ sts 4 ∧ 1 ≤ e.2 ∧ e.2 ≤ 1000000) := fun e he => by
              obtain ⟨l, hl, rfl⟩ := List.mem_map.1 he
              exact ⟨(plcW_step HUP.out hxd hl).2, HTT.out l (mvsW_mem hl)⟩
            have hel : (arrOf T 4 Ls x).length ≤ 255 := by rw [arrOf, List.length_map]; exact mvsW_len HLS.out
            obtain ⟨es, hes⟩ : ∃ es, arrOf T 4 Ls x = es := ⟨_, rfl⟩
            rw [hes] at hown2 HES hel HROW ⊢
            have HR2 := Lib.hid (HRA.out.below hb2)
            have HW2 : Hid (PlaceMap w2 (w.heap.size + 1) (waitW T Ls L m R W i (es.take 0))) := by show PlaceMap _ _ _; rw [List.take_zero]; exact HWA.out.below hb2
            have HO2 := Lib.hid (ownsRow_below HOA.out hb2)
            have HB2 := Lib.hid (below_then HBA.out hb2 HBA.out.size)
            have HV2 := Lib.hid hown2
            have hz2 : w0.heap.size ≤ w2.heap.size := by have := hb2.size; simp at this; omega
            have hwx : wi.heap.size < (wi.alloc (.cells #[.bool (pf 4 x 0), .bool (pf 4 x 1), .bool (pf 4 x 2), .bool (pf 4 x 3), .bool (pf 4 x 4), .bool (pf 4 x 5), .bool (pf 4 x 6), .bool (pf 4 x 7), .bool (pt x)] 75)).heap.size := by simp
            clear hes hown2 hb2 t0 t1 t2 t3 t4 t5 t6 t7 t8 p0 p1 p2 p3 p4 p5 p6 p7 p8 hgl
            go_wp2
            go_loopw [58] (fun i' wr => ∃ j : Nat, j ≤ es.length ∧ i' = .int .i64 j ∧ PlaceMap wr w.heap.size (settle L m R) ∧ PlaceMap wr (w.heap.size + 1) (waitW T Ls L m R W i (es.take j)) ∧ wr.ownsRow (w0.heap.size + 1) 75 9 (.slice (some ⟨g, 0, none⟩) L.length cL) L.length (edgeC 4 L) ∧ wr.ownsRow (wi.alloc (.cells #[.bool (pf 4 x 0), .bool (pf 4 x 1), .bool (pf 4 x 2), .bool (pf 4 x 3), .bool (pf 4 x 4), .bool (pf 4 x 5), .bool (pf 4 x 6), .bool (pf 4 x 7), .bool (pt x)] 75)).heap.size 168 10 (.slice A2 es.length c2) es.length (arrsC es) ∧ Below w.heap.size w wr ∧ w0.heap.size ≤ wr.heap.size) (fun i' _ => es.length - (intOf i').toNat)
            case atStart => exact ⟨0, Nat.zero_le _, rfl, HR2.out, HW2.out, HO2.out, HV2.out, HB2.out, hz2⟩
            case round =>
              clear HR2 HW2 HO2 HV2 HB2 hz2
              obtain ⟨j, hj, rfl, hR, hW, hown, hvs, hb, hz⟩ := hrel
              obtain ⟨wo, rfl⟩ : ∃ X : World, X = wr := ⟨_, rfl⟩
              by_cases hlt2 : j < es.length
              · have hd2 : decide ((j : Int) < (es.length : Int)) = true := by simp; omega
                obtain ⟨g2, rfl, hlo3, hgl2, p0, p1, p2, p3, p4, p5, p6, p7, p8, p9⟩ := arr_row hvs hlt2
                obtain ⟨hyd, ht1, htB⟩ := HES.out _ (List.getElem_mem hlt2)
                have HNX := Lib.hid (waitW_next (T := T) (Ls := Ls) (L := L) (m := m) (R := R) (W := W) (i := i) hlt2)
                obtain ⟨⟨y, t⟩, hy⟩ : ∃ y, es[j] = y := ⟨_, rfl⟩
                rw [hy] at p0 p1 p2 p3 p4 p5 p6 p7 p8 p9 hyd ht1 htB HNX
                dsimp only at p0 p1 p2 p3 p4 p5 p6 p7 p8 p9 hyd ht1 htB
                have HRA := Lib.hid (hR.alloc (.cells #[.bool (pf 4 y 0), .bool (pf 4 y 1), .bool (pf 4 y 2), .bool (pf 4 y 3), .bool (pf 4 y 4), .bool (pf 4 y 5), .bool (pf 4 y 6), .bool (pf 4 y 7), .bool (pt y), .int .i64 t] 168))
                have HWA := Lib.hid (hW.alloc (.cells #[.bool (pf 4 y 0), .bool (pf 4 y 1), .bool (pf 4 y 2), .bool (pf 4 y 3), .bool (pf 4 y 4), .bool (pf 4 y 5), .bool (pf 4 y 6), .bool (pf 4 y 7), .bool (pt y), .int .i64 t] 168))
                have HOA := Lib.hid (hown.alloc (.cells #[.bool (pf 4 y 0), .bool (pf 4 y 1), .bool (pf 4 y 2), .bool (pf 4 y 3), .bool (pf 4 y 4), .bool (pf 4 y 5), .bool (pf 4 y 6), .bool (pf 4 y 7), .bool (pt y), .int .i64 t] 168))
                have HVA := Lib.hid (hvs.alloc (.cells #[.bool (pf 4 y 0), .bool (pf 4 y 1), .bool (pf 4 y 2), .bool (pf 4 y 3), .bool (pf 4 y 4), .bool (pf 4 y 5), .bool (pf 4 y 6), .bool (pf 4 y 7), .bool (pt y), .int .i64 t] 168))
                have HBA := Lib.hid (hb.alloc hb.size (.cells #[.bool (pf 4 y 0), .bool (pf 4 y 1), .bool (pf 4 y 2), .bool (pf 4 y 3), .bool (pf 4 y 4), .bool (pf 4 y 5), .bool (pf 4 y 6), .bool (pf 4 y 7), .bool (pt y), .int .i64 t] 168))
                have hwh := Whole.fresh wo 168 #[.bool (pf 4 y 0), .bool (pf 4 y 1), .bool (pf 4 y 2), .bool (pf 4 y 3), .bool (pf 4 y 4), .bool (pf 4 y 5), .bool (pf 4 y 6), .bool (pf 4 y 7), .bool (pt y), .int .i64 t]
                have s0 := hwh.cell 0
                have s1 := hwh.cell 1
                have s2 := hwh.cell 2
                have s3 := hwh.cell 3
                have s4 := hwh.cell 4
                have s5 := hwh.cell 5
                have s6 := hwh.cell 6
                have s7 := hwh.cell 7
                have s8 := hwh.cell 8
                have s9 := hwh.cell 9
                have HWF : Hid ((Lit.int .i64 (m + t)).wf = true) := WalkArith.wf_i64 (by omega)
                have hz3 : w0.heap.size ≤ (wo.alloc (.cells #[.bool (pf 4 y 0), .bool (pf 4 y 1), .bool (pf 4 y 2), .bool (pf 4 y 3), .bool (pf 4 y 4), .bool (pf 4 y 5), .bool (pf 4 y 6), .bool (pf 4 y 7), .bool (pt y), .int .i64 t] 168)).heap.size := by simp; omega
                clear hy hR hW hown hvs hb hwh hgl2
                cases hRy : settle L m R y with
                | some v =>
                  have HN2 : Hid (waitW T Ls L m R W i (es.take (j + 1)) = waitW T Ls L m R W i (es.take j)) := HNX.out.trans (wait1_skip (by show settle L m R y ≠ none; rw [hRy]; simp))
                  have HRY := Lib.hid hRy
                  clear hRy
                  go_wp2_with (at_lookup; refine wpList_map_some _ rfl _ _ rfl (place_keys (by omega)) Try.underlying76 Try.underlying3 (hzero _) rfl HRA.out y hyd rfl HRY.out ?_; go_frame)
                  clear s0 s1 s2 s3 s4 s5 s6 s7 s8 s9 p0 p1 p2 p3 p4 p5 p6 p7 p8 p9
                  go_roundw
                  case rel => exact ⟨j + 1, by omega, by go_num, HRA.out, by rw [HN2.out]; exact HWA.out, HOA.out, HVA.out, HBA.out, hz3⟩
                  case measure => simp [intOf]; omega
                | none =>
                  have HRY := Lib.hid hRy
                  clear hRy
                  cases hWy : waitW T Ls L m R W i (es.take j) y with
                  | none =>
                    have HN2 : Hid (waitW T Ls L m R W i (es.take (j + 1)) = upd (waitW T Ls L m R W i (es.take j)) y (m + t)) := HNX.out.trans (wait1_new HRY.out hWy)
                    have HWY := Lib.hid hWy
                    clear hWy
                    go_wp2_with (first | (at_lookup; refine wpList_map_none _ rfl _ _ rfl (place_keys (by omega)) Try.underlying76 Try.underlying3 (hzero _) rfl HRA.out y hyd rfl HRY.out ?_; go_frame) | (at_lookup; refine wpList_map_none _ rfl _ _ rfl (place_keys (by omega)) Try.underlying76 Try.underlying3 (hzero _) rfl HWA.out y hyd rfl HWY.out ?_; go_frame) | (at_mapUpdate; refine wpList_map_put _ rfl _ _ _ rfl (place_keys (by omega)) Try.underlying76 Try.underlying3 (sts_len (by omega)) rfl HWA.out y hyd rfl (m + t) HWF.out rfl ?_; intro w3 hW3 hg3; go_frame))
                    have HW3 := Lib.hid (hW3.same HN2.out.symm)
                    have HR3 := Lib.hid (HRA.out.kept hg3 (fun e => by have := Option.some.inj e; omega))
                    have HO3 := Lib.hid (own_grown HOA.out hg3 (fun g hg e => by have := Option.some.inj e; omega))
                    have HV3 := Lib.hid (own_grown HVA.out hg3 (fun g hg e => by have := Option.some.inj e; simp at hg; omega))
                    have HB3 := Lib.hid (grown_below HBA.out hg3 (by omega))
                    have hz4 : w0.heap.size ≤ w3.heap.size := by have := hg3.size; omega
                    clear hW3 hg3 s0 s1 s2 s3 s4 s5 s6 s7 s8 s9 p0 p1 p2 p3 p4 p5 p6 p7 p8 p9
                    go_roundw
                    case rel => exact ⟨j + 1, by omega, by go_num, HR3.out, HW3.out, HO3.out, HV3.out, HB3.out, hz4⟩
                    case measure => simp [intOf]; omega
                  | some k =>
                    have HWY := Lib.hid hWy
                    by_cases hk : m + t < k
                    · have HN2 : Hid (waitW T Ls L m R W i (es.take (j + 1)) = upd (waitW T Ls L m R W i (es.take j)) y (m + t)) := HNX.out.trans (wait1_less HRY.out hWy hk)
                      have hdk : decide (m + t < k) = true := by simpa using hk
                      clear hWy
                      go_wp2_with (first | (at_lookup; refine wpList_map_none _ rfl _ _ rfl (place_keys (by omega)) Try.underlying76 Try.underlying3 (hzero _) rfl HRA.out y hyd rfl HRY.out ?_; go_frame) | (at_lookup; refine wpList_map_some _ rfl _ _ rfl (place_keys (by omega)) Try.underlying76 Try.underlying3 (hzero _) rfl HWA.out y hyd rfl HWY.out ?_; go_frame) | (at_mapUpdate; refine wpList_map_put _ rfl _ _ _ rfl (place_keys (by omega)) Try.underlying76 Try.underlying3 (sts_len (by omega)) rfl HWA.out y hyd rfl (m + t) HWF.out rfl ?_; intro w3 hW3 hg3; go_frame))
                      have HW3 := Lib.hid (hW3.same HN2.out.symm)
                      have HR3 := Lib.hid (HRA.out.kept hg3 (fun e => by have := Option.some.inj e; omega))
                      have HO3 := Lib.hid (own_grown HOA.out hg3 (fun g hg e => by have := Option.some.inj e; omega))
                      have HV3 := Lib.hid (own_grown HVA.out hg3 (fun g hg e => by have := Option.some.inj e; simp at hg; omega))
                      have HB3 := Lib.hid (grown_below HBA.out hg3 (by omega))
                      have hz4 : w0.heap.size ≤ w3.heap.size := by have := hg3.size; omega
                      clear hW3 hg3 s0 s1 s2 s3 s4 s5 s6 s7 s8 s9 p0 p1 p2 p3 p4 p5 p6 p7 p8 p9
                      go_roundw
                      case rel => exact ⟨j + 1, by omega, by go_num, HR3.out, HW3.out, HO3.out, HV3.out, HB3.out, hz4⟩
                      case measure => simp [intOf]; omega
                    · have HN2 : Hid (waitW T Ls L m R W i (es.take (j + 1)) = waitW T Ls L m R W i (es.take j)) := HNX.out.trans (wait1_keep hWy hk)
                      have hdk : decide (m + t < k) = false := by simpa using hk
                      clear hWy
                      go_wp2_with (first | (at_lookup; refine wpList_map_none _ rfl _ _ rfl (place_keys (by omega)) Try.underlying76 Try.underlying3 (hzero _) rfl HRA.out y hyd rfl HRY.out ?_; go_frame) | (at_lookup; refine wpList_map_some _ rfl _ _ rfl (place_keys (by omega)) Try.underlying76 Try.underlying3 (hzero _) rfl HWA.out y hyd rfl HWY.out ?_; go_frame))
                      clear s0 s1 s2 s3 s4 s5 s6 s7 s8 s9 p0 p1 p2 p3 p4 p5 p6 p7 p8 p9
                      go_roundw
                      case rel => exact ⟨j + 1, by omega, by go_num, HRA.out, by rw [HN2.out]; exact HWA.out, HOA.out, HVA.out, HBA.out, hz3⟩
                      case measure => simp [intOf]; omega
              · obtain rfl : j = es.length := by omega
                have hd2 : decide ((es.length : Int) < (es.length : Int)) = false := by simp
                rw [List.take_length, HROW.out] at hW
                have HR1 := Lib.hid hR
                have HW1 := Lib.hid hW
                have HO1 := Lib.hid hown
                have HB1 := Lib.hid hb
                clear hR hW hown hvs hb
                go_wp2
                go_roundw
                case rel => exact ⟨i + 1, by omega, by go_num, HR1.out, HW1.out, HO1.out, HB1.out, hz⟩
                case measure => simp [intOf]; omega
          · obtain rfl : i = L.length := by omega
            have hd1 : decide ((L.length : Int) < (L.length : Int)) = false := by simp
            have hWe : waitW T Ls L m R W L.length [] = waitAll m (settle L m R) (esOf T 4 Ls L) (gone L W) := by rw [waitW, List.take_length, List.append_nil]
            rw [hWe] at hW
            obtain ⟨hst2, hcn⟩ := times_round (by omega) HEE.out HST.out HE.out HWD.out (leg_in (T := T) (k := 4) (Ls := Ls)) leg_out
            have hst3 : TimesSt (LegE T 4 Ls) (sts 4) src 1000000 (settle L m R) (waitAll m (settle L m R) (esOf T 4 Ls L) (gone L W)) := hst2
            have hcn3 : countIs (sts 4) R < countIs (sts 4) (settle L m R) := hcn
            have hc5 := count_le (settle L m R)
            clear hWe hst2 hcn
            obtain ⟨R2, hR2⟩ : ∃ R2, R2 = settle L m R := ⟨_, rfl⟩
            obtain ⟨W2, hW2⟩ : ∃ W2, W2 = waitAll m (settle L m R) (esOf T 4 Ls L) (gone L W) := ⟨_, rfl⟩
            rw [← hW2, ← hR2] at hst3
            rw [← hW2] at hW
            rw [← hR2] at hR hcn3 hc5
            clear hW2 hR2
            have hn := HN.out
            have HNC : Hid (∃ n', n' < n ∧ n' + countIs (sts 4) R2 = 512) := ⟨512 - countIs (sts 4) R2, by omega, by omega⟩
            have HST2 := Lib.hid hst3
            have HR1 := Lib.hid hR
            have HW1 := Lib.hid hW
            have HB1 := Lib.hid hb
            clear hst3 hcn3 hc5 hn hR hb hown
            obtain ⟨q, hq⟩ : ∃ q, q = countIs (sts 4) W2 := ⟨_, rfl⟩
            have HQ := Lib.hid hq
            by_cases h0 : q = 0
            · have hd9 : decide (0 < q) = false := by simp; omega
              have HNO : Hid (∀ x, W2 x = none) := count_none (by rw [← hq]; exact h0) (fun x hx => hW.out hx)
              have HLE : Hid (leastD (LegE T 4 Ls) src = R2) := leastD_of (fun x t y h => (HEE.out x t y h).1) (seek_end HST2.out.seek HNO.out)
              have H00 := Lib.hid h0
              clear hW hq h0
              go_wp2_with (at_len; refine wpList_map_len _ rfl _ rfl (place_keys (by omega)) (sts_nodup 4) Try.underlying76 rfl HW1.out ?_; rw [← HQ.out]; go_frame)
              try simp only [Exit.jump]
              go_ret
              exact ⟨w.heap.size, rfl, by rw [HLE.out]; exact HR1.out, HB1.out⟩
            · have hd9 : decide (0 < q) = true := by simp; omega
              have HSO := Lib.hid (count_some (R := W2) (by rw [← hq]; exact h0))
              clear hW hq
              go_wp2_with (at_len; refine wpList_map_len _ rfl _ rfl (place_keys (by omega)) (sts_nodup 4) Try.underlying76 rfl HW1.out ?_; rw [← HQ.out]; go_frame)
              go_step3
              obtain ⟨n', hn1, hn2⟩ := HNC.out
              exact ⟨rfl, n', hn1, R2, W2, HST2.out, hn2, HR1.out, HW1.out, HSO.out, HB1.out, _, _, _, _, _, _, _, _, _, _, _, _, _, _, _, _, _, _, _, _, _, _, _, _, _, _, _, _, _, _, _, _, _, _, _, _, _, _, _, _, _, _, _, _, _, _, _, _, _, _, _, _, _, _, _, _, _, _, _, _, _, _, _, _, _, _, _, _, _, _, _, _, _, _, _, _, _, _, _, _, _, _, _, _, _, _, _, _, _, _, _, _, _, rfl⟩
  · intro HP
    have HPP := Lib.hid HP
    clear HP
    go_wp2
    go_loopw [26] (fun i wr => ∃ j : Nat, j ≤ 1 ∧ i = .int .i64 j ∧ PlaceMap wr w.heap.size (fun _ => none) ∧ PlaceMap wr (w.heap.size + 1) (srcMap src j) ∧ Whole wr b 75 (plcC 4 src) ∧ Below w.heap.size w wr ∧ w.heap.size + 1 < wr.heap.size) (fun i _ => 1 - (intOf i).toNat)
    case atStart => exact ⟨0, by omega, rfl, H1.out, H2.out, HRW.out, HB.out, by simp⟩
    case round =>
      clear H1 H2 HRW HB hmm
      obtain ⟨j, hj, rfl, hR, hW, hrow, hb, hz⟩ := hrel
      obtain ⟨wo, rfl⟩ : ∃ X : World, X = wr := ⟨_, rfl⟩
      rcases (show j = 0 ∨ j = 1 by omega) with rfl | rfl
      · obtain ⟨p0, p1, p2, p3, p4, p5, p6, p7, p8⟩ := nine0_of hrow
        have hgl := hrow.lt
        have hd1 : decide ((0 : Int) < 1) = true := by decide
        have HRA := Lib.hid (hR.alloc (.cells #[.bool (pf 4 src 0), .bool (pf 4 src 1), .bool (pf 4 src 2), .bool (pf 4 src 3), .bool (pf 4 src 4), .bool (pf 4 src 5), .bool (pf 4 src 6), .bool (pf 4 src 7), .bool (pt src)] 75))
        have HWA := Lib.hid (hW.alloc (.cells #[.bool (pf 4 src 0), .bool (pf 4 src 1), .bool (pf 4 src 2), .bool (pf 4 src 3), .bool (pf 4 src 4), .bool (pf 4 src 5), .bool (pf 4 src 6), .bool (pf 4 src 7), .bool (pt src)] 75))
        have HOA := Lib.hid (hrow.alloc (.cells #[.bool (pf 4 src 0), .bool (pf 4 src 1), .bool (pf 4 src 2), .bool (pf 4 src 3), .bool (pf 4 src 4), .bool (pf 4 src 5), .bool (pf 4 src 6), .bool (pf 4 src 7), .bool (pt src)] 75))
        have HBA := Lib.hid (hb.alloc hb.size (.cells #[.bool (pf 4 src 0), .bool (pf 4 src 1), .bool (pf 4 src 2), .bool (pf 4 src 3), .bool (pf 4 src 4), .bool (pf 4 src 5), .bool (pf 4 src 6), .bool (pf 4 src 7), .bool (pt src)] 75))
        have HS1 : Hid (upd (srcMap src 0) src 0 = srcMap src 1) := by show _ = _; simp [srcMap]
        obtain ⟨t0, t1, t2, t3, t4, t5, t6, t7, t8⟩ := nine0_of (show Whole (wo.alloc (.cells #[.bool (pf 4 src 0), .bool (pf 4 src 1), .bool (pf 4 src 2), .bool (pf 4 src 3), .bool (pf 4 src 4), .bool (pf 4 src 5), .bool (pf 4 src 6), .bool (pf 4 src 7), .bool (pt src)] 75)) wo.heap.size 75 (plcC 4 src) from Whole.fresh _ _ _)
        clear hR hW hrow hb
        go_wp2_with (at_mapUpdate; refine wpList_map_put _ rfl _ _ _ rfl (place_keys (by omega)) Try.underlying76 Try.underlying3 (sts_len (by omega)) rfl HWA.out src HSD.out rfl 0 (by decide) rfl ?_; intro w2 hW2 hg2; go_frame)
        have HR2 := Lib.hid (HRA.out.kept hg2 (fun e => by have := Option.some.inj e; omega))
        have HW2 := Lib.hid (hW2.same HS1.out)
        have HO2 : Hid (Whole w2 b 75 (plcC 4 src)) := (hg2.block b HOA.out.lt (fun e => by have := Option.some.inj e; omega)).trans HOA.out
        have HB2 := Lib.hid (grown_below HBA.out hg2 (by omega))
        have hz2 : w.heap.size + 1 < w2.heap.size := by have := hg2.size; simp at this; omega
        clear hW2 hg2 t0 t1 t2 t3 t4 t5 t6 t7 t8 p0 p1 p2 p3 p4 p5 p6 p7 p8
        go_roundw
        case rel => exact ⟨1, by omega, by go_num, HR2.out, HW2.out, HO2.out, HB2.out, hz2⟩
        case measure => simp [intOf]
      · have hd1 : decide ((1 : Int) < 1) = false := by decide
        have HR1 := Lib.hid hR
        have HW1 := Lib.hid hW
        have HB1 := Lib.hid hb
        clear hR hW hrow hb
        have HJ : Hid (TimesSt (LegE T 4 Ls) (sts 4) src 1000000 (fun _ => none) (srcMap src 1)) := times_start _ _ _ _
        have H0 : Hid (countIs (sts 4) (fun _ => (none : Option Int)) = 0) := by show _ = _; simp [countIs]
        have HX : Hid (∃ x c, srcMap src 1 x = some c) := ⟨src, 0, by rw [srcMap, if_neg (by omega), upd_same]⟩
        go_wp2
        go_step3
        rename_i hK
        exact hK _ _ (HPP.out 512 _ _ ⟨fun _ => none, srcMap src 1, HJ.out, by rw [H0.out], HR1.out, HW1.out, HX.out, HB1.out, _, _, _, _, _, _, _, _, _, _, _, _, _, _, _, _, _, _, _, _, _, _, _, _, _, _, _, _, _, _, _, _, _, _, _, _, _, _, _, _, _, _, _, _, _, _, _, _, _, _, _, _, _, _, _, _, _, _, _, _, _, _, _, _, _, _, _, _, _, _, _, _, _, _, _, _, _, _, _, _, _, _, _, _, _, _, _, _, _, _, _, _, _, rfl⟩)
end Go.Proofs.Ytlpeimlbpiofkaa

namespace Go.Proofs.Ytlpeimlbpiofkaa
open Go.RowKit Go.Maps

theorem size_routes : (Try.prog.info? 78).map (·.size) = some 11 := by kernel_rfl
theorem place_code {bs : List Bool} {t : Bool} (h : bs.length ≤ 8) : placeCells bs t = plcC 4 (codeOf bs t) := by
  have key : ∀ i, i < 8 → bs.getD i false = pf 4 (codeOf bs t) i := fun i hi => by
    rw [pf, bitsOf_getD (show i < 2 * 4 by omega), bit_half, bit_code, if_neg (by omega), Nat.add_sub_cancel]
    by_cases hb : i < bs.length
    · simp [hb]
    · simp [hb]
  rw [placeCells, plcC, place9, key 0 (by omega), key 1 (by omega), key 2 (by omega), key 3 (by omega), key 4 (by omega), key 5 (by omega), key 6 (by omega), key 7 (by omega), pt, torch_back]
theorem code_mem {bs : List Bool} {t : Bool} (h : bs.length ≤ 8) : codeOf bs t ∈ sts 4 := by
  have h1 := code_lt bs t
  have h2 : 2 ^ bs.length ≤ 2 ^ 8 := Nat.pow_le_pow_right (by omega) h
  exact sts_mem.2 (by omega)
theorem cells11 {w : World} {g : Nat} {t : TypeId} {x0 x1 x2 x3 x4 x5 x6 x7 x8 x9 x10 : Value} (h : Whole w g t #[x0, x1, x2, x3, x4, x5, x6, x7, x8, x9, x10]) : w.cell? ⟨g, 0, none⟩ = some x0 ∧ w.cell? ⟨g, 1, none⟩ = some x1 ∧ w.cell? ⟨g, 2, none⟩ = some x2 ∧ w.cell? ⟨g, 3, none⟩ = some x3 ∧ w.cell? ⟨g, 4, none⟩ = some x4 ∧ w.cell? ⟨g, 5, none⟩ = some x5 ∧ w.cell? ⟨g, 6, none⟩ = some x6 ∧ w.cell? ⟨g, 7, none⟩ = some x7 ∧ w.cell? ⟨g, 8, none⟩ = some x8 ∧ w.cell? ⟨g, 9, none⟩ = some x9 ∧ w.cell? ⟨g, 10, none⟩ = some x10 := ⟨h.cell 0, h.cell 1, h.cell 2, h.cell 3, h.cell 4, h.cell 5, h.cell 6, h.cell 7, h.cell 8, h.cell 9, h.cell 10⟩
theorem map_only {w w' : World} {b g : Nat} {M : Nat → Option Int} {t : TypeId} {cs : Array Value} (h : PlaceMap w b M) (ho : Only g w w') (hg : Whole w g t cs) : PlaceMap w' b M := by
  obtain ⟨D, ⟨es, clock, hh, r⟩, hr⟩ := h
  have hne : b ≠ g := by
    rintro rfl
    have h1 : some (Obj.map es clock) = some (Obj.cells cs t (0, 0)) := hh.symm.trans hg
    simp at h1
  exact ⟨D, ⟨es, clock, (ho.block b hne).trans hh, r⟩, hr⟩
/-- The cells of routes. -/
def routeC (E : Option Addr) (k c x mb : Nat) : Array Value := #[.slice E k c, .bool (pf 4 x 0), .bool (pf 4 x 1), .bool (pf 4 x 2), .bool (pf 4 x 3), .bool (pf 4 x 4), .bool (pf 4 x 5), .bool (pf 4 x 6), .bool (pf 4 x 7), .bool (pt x), .map (some mb)]
theorem slow_one {xs : List Int} {n q : Nat} {l : List Int} (hx : xs.length = n) (hxs : ∀ y ∈ xs, 1 ≤ y) (hl : l ∈ upLists n q) : 1 ≤ slowOf xs l := by
  obtain ⟨h1, h2, -⟩ := mem_up.1 hl
  obtain ⟨k, r, rfl⟩ := List.exists_cons_of_ne_nil (show l ≠ [] by rintro rfl; simp at h2)
  have hk := mem_steps h1 (show k ∈ k :: r from List.mem_cons_self ..)
  have hkx : k.toNat < xs.length := by omega
  have h3 := hxs _ (List.getElem_mem hkx)
  have h4 := (foldl_max ((k :: r).map fun k => xs.getD k.toNat 0) 0).2 (xs.getD k.toNat 0) (by simp)
  have h5 : xs.getD k.toNat 0 = xs[k.toNat] := by simp [hkx]
  rw [h5] at h4
  exact Int.le_trans h3 h4
theorem onwardBy_any (T : List Int → Int) (lo : Nat) (E : Option Addr) (c : Nat) (Ls : List (List Int)) (w : World) (hown : w.ownsRow lo 89 9 (.slice E Ls.length c) Ls.length (legsCells T Ls)) :
    Calls Try.prog 118 #[.slice E Ls.length c] w fun e w' => ∃ gB, e = .returned (arrFnV gB) ∧ ArrFn w' T gB lo E c Ls ∧ Below w.heap.size w w' := by
  have HB := Lib.hid (below1 w (.cells #[.slice E Ls.length c] 70))
  have HW := Lib.hid (Whole.fresh w 70 #[.slice E Ls.length c])
  have HO := Lib.hid (hown.alloc (.cells #[.slice E Ls.length c] 70))
  clear hown
  go_enter Try.func118, Try.ntmps118
  go_wp2
  go_ret
  exact ⟨w.heap.size, rfl, ⟨HW.out, HO.out⟩, HB.out⟩

set_option maxHeartbeats 12800000 in
set_option maxRecDepth 100000 in
set_option linter.unusedVariables false in
set_option linter.unusedSimpArgs false in
theorem routesBy_any (T : List Int → Int) (lo : Nat) (E : Option Addr) (c : Nat) (Ls : List (List Int)) (n : Nat) (w : World) (hown0 : w.ownsRow lo 89 9 (.slice E Ls.length c) Ls.length (legsCells T Ls)) (hLs : Ls.length ≤ 255) (hup : ∀ l ∈ Ls, l ∈ upLists (2 * 4) (2 * 4)) (hT : ∀ l ∈ Ls, 1 ≤ T l ∧ T l ≤ 1000000) (h1 : 1 ≤ n) (hn : n ≤ 8) :
    Calls Try.prog 138 #[.slice E Ls.length c, .int .i64 (n : Int)] w fun e w' => ∃ mb, e = .returned (.agg (routeC E Ls.length c (codeOf (trues n) true) mb)) ∧ w'.ownsRow lo 89 9 (.slice E Ls.length c) Ls.length (legsCells T Ls) ∧ PlaceMap w' mb (leastD (LegE T 4 Ls) (codeOf (trues n) true)) ∧ Below w.heap.size w w' := by
  have HLS := Lib.hid hLs
  have HUP := Lib.hid hup
  have HTT := Lib.hid hT
  have HTL : Hid ((trues n).length = n) := by show _ = _; simp [trues]
  have HYD0 := Lib.hid (code_mem (bs := trues n) (t := true) (by rw [HTL.out]; exact hn))
  have HPC0 : Hid (placeCells (trues n) true = plcC 4 (codeOf (trues n) true)) := place_code (by rw [HTL.out]; exact hn)
  obtain ⟨y, hy⟩ : ∃ y, codeOf (trues n) true = y := ⟨_, rfl⟩
  rw [hy] at HYD0 HPC0 ⊢
  have HYD := HYD0
  clear hy
  have hr := Whole.fresh w 78 #[.slice none 0 0, .bool false, .bool false, .bool false, .bool false, .bool false, .bool false, .bool false, .bool false, .bool false, .map none]
  have ht := below1 w (.cells #[.slice none 0 0, .bool false, .bool false, .bool false, .bool false, .bool false, .bool false, .bool false, .bool false, .bool false, .map none] 78)
  have hown := hown0.alloc (.cells #[.slice none 0 0, .bool false, .bool false, .bool false, .bool false, .bool false, .bool false, .bool false, .bool false, .bool false, .map none] 78)
  clear hown0 hLs hup hT HYD0
  go_enter Try.func138, Try.ntmps138
  go_wp2_with fail
  refine (everybodyOver_any n _ hn).mono ?_
  rintro e w1 ⟨rfl, hb⟩
  rw [HPC0.out]
  replace hr := (hr.below hb).alloc (.cells #[.bool (pf 4 y 0), .bool (pf 4 y 1), .bool (pf 4 y 2), .bool (pf 4 y 3), .bool (pf 4 y 4), .bool (pf 4 y 5), .bool (pf 4 y 6), .bool (pf 4 y 7), .bool (pt y)] 75)
  have hp : Whole (w1.alloc (.cells #[.bool (pf 4 y 0), .bool (pf 4 y 1), .bool (pf 4 y 2), .bool (pf 4 y 3), .bool (pf 4 y 4), .bool (pf 4 y 5), .bool (pf 4 y 6), .bool (pf 4 y 7), .bool (pt y)] 75)) w1.heap.size 75 (plcC 4 y) := Whole.fresh _ _ _
  replace hown := (ownsRow_below hown hb).alloc (.cells #[.bool (pf 4 y 0), .bool (pf 4 y 1), .bool (pf 4 y 2), .bool (pf 4 y 3), .bool (pf 4 y 4), .bool (pf 4 y 5), .bool (pf 4 y 6), .bool (pf 4 y 7), .bool (pt y)] 75)
  have ht1 := below_then ht hb ht.size
  have hlo1 : w.heap.size + 1 ≤ w1.heap.size := by have := hb.size; simpa using this
  replace ht := ht1.alloc ht1.size (.cells #[.bool (pf 4 y 0), .bool (pf 4 y 1), .bool (pf 4 y 2), .bool (pf 4 y 3), .bool (pf 4 y 4), .bool (pf 4 y 5), .bool (pf 4 y 6), .bool (pf 4 y 7), .bool (pt y)] 75)
  clear hb ht1
  unfold plcC place9
  go_wp2_with fail
  refine wp_region_held_drew (S := (Nine0 w1.heap.size 4 y)) (by kernel_rfl) (nine0_of hp.drew) (fun hHeld => ?_)
  replace hp := hp.drew
  replace hr := hr.drew
  replace ht := ht.drew
  replace hown : (World.drew (w1.alloc (.cells #[.bool (pf 4 y 0), .bool (pf 4 y 1), .bool (pf 4 y 2), .bool (pf 4 y 3), .bool (pf 4 y 4), .bool (pf 4 y 5), .bool (pf 4 y 6), .bool (pf 4 y 7), .bool (pt y)] 75))).ownsRow lo 89 9 (.slice E Ls.length c) Ls.length (legsCells T Ls) := hown
  generalize World.drew (w1.alloc (.cells #[.bool (pf 4 y 0), .bool (pf 4 y 1), .bool (pf 4 y 2), .bool (pf 4 y 3), .bool (pf 4 y 4), .bool (pf 4 y 5), .bool (pf 4 y 6), .bool (pf 4 y 7), .bool (pt y)] 75)) = wd at hp hr ht hown hHeld ⊢
  refine wpAnyH_take (i := 0) (v := ?_) rfl (by kernel_rfl) (by kernel_rfl) (by kernel_rfl) (fun _ _ _ h => h) (Or.inl ⟨rfl, ?_⟩) hHeld ?_
  rotate_left
  · intro w' hS; obtain ⟨s0, s1, s2, s3, s4, s5, s6, s7, s8⟩ := hS; go_simp <;> with_reducible rfl
  simp only [Act.put, List.getElem_toArray, List.getElem_cons_succ, List.getElem_cons_zero, List.setIfInBounds_toArray, List.set_cons_succ, List.set_cons_zero]
  refine wpAnyH_take (i := 1) (v := ?_) rfl (by kernel_rfl) (by kernel_rfl) (by kernel_rfl) (fun _ _ _ h => h) (Or.inl ⟨rfl, ?_⟩) hHeld ?_
  rotate_left
  · intro w' hS; obtain ⟨s0, s1, s2, s3, s4, s5, s6, s7, s8⟩ := hS; go_simp <;> with_reducible rfl
  simp only [Act.put, List.getElem_toArray, List.getElem_cons_succ, List.getElem_cons_zero, List.setIfInBounds_toArray, List.set_cons_succ, List.set_cons_zero]
  refine wpAnyH_take (i := 2) (v := ?_) rfl (by kernel_rfl) (by kernel_rfl) (by kernel_rfl) (fun _ _ _ h => h) (Or.inl ⟨rfl, ?_⟩) hHeld ?_
  rotate_left
  · intro w' hS; obtain ⟨s0, s1, s2, s3, s4, s5, s6, s7, s8⟩ := hS; go_simp <;> with_reducible rfl
  simp only [Act.put, List.getElem_toArray, List.getElem_cons_succ, List.getElem_cons_zero, List.setIfInBounds_toArray, List.set_cons_succ, List.set_cons_zero]
  refine wpAnyH_take (i := 4) (v := ?_) rfl (by kernel_rfl) (by kernel_rfl) (by kernel_rfl) (fun _ _ _ h => h) (Or.inl ⟨rfl, ?_⟩) hHeld ?_
  rotate_left
  · intro w' hS; obtain ⟨s0, s1, s2, s3, s4, s5, s6, s7, s8⟩ := hS; go_simp <;> with_reducible rfl
  simp only [Act.put, List.getElem_toArray, List.getElem_cons_succ, List.getElem_cons_zero, List.setIfInBounds_toArray, List.set_cons_succ, List.set_cons_zero]
  refine wpAnyH_ready (rs := [3, 5]) (by kernel_rfl) (by simp) (AllReadyH.cons rfl (fun K hK => ?_) (AllReadyH.cons rfl (fun K hK => ?_) AllReadyH.nil))
  · go_simp
    refine (onwardBy_any T lo E c Ls _ hown).mono ?_
    rintro e wdo ⟨gB, rfl, hfn0, hb⟩
    replace hp := hp.below hb
    replace hr := hr.below hb
    replace hown := ownsRow_below hown hb
    replace ht := below_then ht hb ht.size
    clear hb
    have hfn := hfn0
    clear hfn0
    unfold arrFnV
    refine hK.out _ _ (nine0_of hp) (fun hHeld => ?_)
    clear hK K
    try simp only [Act.put, List.getElem_toArray, List.getElem_cons_succ, List.getElem_cons_zero, List.setIfInBounds_toArray, List.set_cons_succ, List.set_cons_zero]
    refine wpAnyH_ready (rs := [5]) (by kernel_rfl) (by simp) (AllReadyH.cons rfl (fun K hK => ?_) AllReadyH.nil)
    go_simp
    have hrow : Whole (World.alloc wdo (.cells #[.bool (pf 4 y 0), .bool (pf 4 y 1), .bool (pf 4 y 2), .bool (pf 4 y 3), .bool (pf 4 y 4), .bool (pf 4 y 5), .bool (pf 4 y 6), .bool (pf 4 y 7), .bool (pt y)] 75)) wdo.heap.size 75 (plcC 4 y) := Whole.fresh _ _ _
    have hb := below1 wdo (.cells #[.bool (pf 4 y 0), .bool (pf 4 y 1), .bool (pf 4 y 2), .bool (pf 4 y 3), .bool (pf 4 y 4), .bool (pf 4 y 5), .bool (pf 4 y 6), .bool (pf 4 y 7), .bool (pt y)] 75)
    obtain ⟨gR, hgR⟩ : ∃ g, g = wdo.heap.size := ⟨_, rfl⟩
    rw [← hgR] at hrow ⊢
    generalize World.alloc wdo (.cells #[.bool (pf 4 y 0), .bool (pf 4 y 1), .bool (pf 4 y 2), .bool (pf 4 y 3), .bool (pf 4 y 4), .bool (pf 4 y 5), .bool (pf 4 y 6), .bool (pf 4 y 7), .bool (pt y)] 75) = wdob at hrow hb ⊢
    replace hp := hp.below hb
    replace hr := hr.below hb
    replace hown := ownsRow_below hown hb
    replace hfn := hfn.below hb
    replace ht := below_then ht hb ht.size
    clear hb
    clear hgR
    refine hK.out _ _ (nine0_of hp) (fun hHeld => ?_)
    clear hK K
    try simp only [Act.put, List.getElem_toArray, List.getElem_cons_succ, List.getElem_cons_zero, List.setIfInBounds_toArray, List.set_cons_succ, List.set_cons_zero]
    refine wpAnyH_ready (rs := [6]) (by kernel_rfl) (by simp) (AllReadyH.cons rfl (fun K hK => ?_) AllReadyH.nil)
    go_simp
    have hlt := leastTimes_any T gB lo gR E c Ls y _ hfn HLS.out HUP.out HTT.out HYD.out hrow
    unfold arrFnV at hlt
    refine hlt.mono ?_
    clear hlt
    rintro e wdobt ⟨mb, rfl, hmap, hb⟩
    replace hp := hp.below hb
    replace hr := hr.below hb
    replace hown := ownsRow_below hown hb
    replace hfn := hfn.below hb
    replace hrow := hrow.below hb
    replace ht := below_then ht hb ht.size
    clear hb
    refine hK.out _ _ (nine0_of hp) (fun hHeld => ?_)
    clear hK K
    try simp only [Act.put, List.getElem_toArray, List.getElem_cons_succ, List.getElem_cons_zero, List.setIfInBounds_toArray, List.set_cons_succ, List.set_cons_zero]
    refine wpAnyH_take (i := 7) (v := ?_) rfl (by kernel_rfl) (by kernel_rfl) (by kernel_rfl) (fun _ _ _ h => h) (Or.inl ⟨rfl, ?_⟩) hHeld ?_
    rotate_left
    · intro w' hS; obtain ⟨s0, s1, s2, s3, s4, s5, s6, s7, s8⟩ := hS; go_simp <;> with_reducible rfl
    simp only [Act.put, List.getElem_toArray, List.getElem_cons_succ, List.getElem_cons_zero, List.setIfInBounds_toArray, List.set_cons_succ, List.set_cons_zero]
    refine wpAnyH_ready (rs := [8]) (by kernel_rfl) (by simp) (AllReadyH.cons rfl (fun K hK => ?_) AllReadyH.nil)
    refine wp_store_row 78 (.tmp 4) (.tmp 15) rfl (w.heap.size) #[.slice E Ls.length c, .bool (pf 4 y 0), .bool (pf 4 y 1), .bool (pf 4 y 2), .bool (pf 4 y 3), .bool (pf 4 y 4), .bool (pf 4 y 5), .bool (pf 4 y 6), .bool (pf 4 y 7), .bool (pt y), .map (some mb)] rfl rfl 78 #[.slice none 0 0, .bool false, .bool false, .bool false, .bool false, .bool false, .bool false, .bool false, .bool false, .bool false, .map none] hr size_routes rfl (by simp [Value.oneCell']) ?_
    have o9 := only_setRow wdobt (w.heap.size) #[.slice E Ls.length c, .bool (pf 4 y 0), .bool (pf 4 y 1), .bool (pf 4 y 2), .bool (pf 4 y 3), .bool (pf 4 y 4), .bool (pf 4 y 5), .bool (pf 4 y 6), .bool (pf 4 y 7), .bool (pt y), .map (some mb)]
    have x9 := whole_setRow #[.slice E Ls.length c, .bool (pf 4 y 0), .bool (pf 4 y 1), .bool (pf 4 y 2), .bool (pf 4 y 3), .bool (pf 4 y 4), .bool (pf 4 y 5), .bool (pf 4 y 6), .bool (pf 4 y 7), .bool (pt y), .map (some mb)] hr
    have p9 := o9.whole hp (by omega)
    have t9 := o9.below ht (Nat.le_refl _)
    have f9 := own_only hown o9 hr (by decide)
    have m9 := map_only hmap o9 hr
    generalize World.setRow wdobt (w.heap.size) #[.slice E Ls.length c, .bool (pf 4 y 0), .bool (pf 4 y 1), .bool (pf 4 y 2), .bool (pf 4 y 3), .bool (pf 4 y 4), .bool (pf 4 y 5), .bool (pf 4 y 6), .bool (pf 4 y 7), .bool (pt y), .map (some mb)] = w9 at o9 x9 p9 t9 f9 m9 ⊢
    refine hK.out _ _ (nine0_of p9) (fun hHeld => ?_)
    clear hK K
    try simp only [Act.put, List.getElem_toArray, List.getElem_cons_succ, List.getElem_cons_zero, List.setIfInBounds_toArray, List.set_cons_succ, List.set_cons_zero]
    refine wpAnyH_done (by kernel_rfl) ?_ _
    clear hHeld
    have X9 := Lib.hid x9
    have T9 := Lib.hid t9
    have F9 := Lib.hid f9
    have M9 := Lib.hid m9
    obtain ⟨r0, r1, r2, r3, r4, r5, r6, r7, r8, r9, r10⟩ := cells11 x9
    have hl9 := x9.lt
    clear x9 o9 p9 t9 f9 m9 hp hr hown hmap ht hfn hrow
    go_wp2_with fail
    exact bodyPost_ret (v := .agg #[.slice E Ls.length c, .bool (pf 4 y 0), .bool (pf 4 y 1), .bool (pf 4 y 2), .bool (pf 4 y 3), .bool (pf 4 y 4), .bool (pf 4 y 5), .bool (pf 4 y 6), .bool (pf 4 y 7), .bool (pt y), .map (some mb)]) (by simp [results, Try.results138, go_sem, r0, r1, r2, r3, r4, r5, r6, r7, r8, r9, r10]) rfl ⟨mb, by rw [routeC], F9.out, M9.out, T9.out⟩
  · go_simp
    have hrow : Whole (World.alloc wd (.cells #[.bool (pf 4 y 0), .bool (pf 4 y 1), .bool (pf 4 y 2), .bool (pf 4 y 3), .bool (pf 4 y 4), .bool (pf 4 y 5), .bool (pf 4 y 6), .bool (pf 4 y 7), .bool (pt y)] 75)) wd.heap.size 75 (plcC 4 y) := Whole.fresh _ _ _
    have hb := below1 wd (.cells #[.bool (pf 4 y 0), .bool (pf 4 y 1), .bool (pf 4 y 2), .bool (pf 4 y 3), .bool (pf 4 y 4), .bool (pf 4 y 5), .bool (pf 4 y 6), .bool (pf 4 y 7), .bool (pt y)] 75)
    obtain ⟨gR, hgR⟩ : ∃ g, g = wd.heap.size := ⟨_, rfl⟩
    rw [← hgR] at hrow ⊢
    generalize World.alloc wd (.cells #[.bool (pf 4 y 0), .bool (pf 4 y 1), .bool (pf 4 y 2), .bool (pf 4 y 3), .bool (pf 4 y 4), .bool (pf 4 y 5), .bool (pf 4 y 6), .bool (pf 4 y 7), .bool (pt y)] 75) = wdb at hrow hb ⊢
    replace hp := hp.below hb
    replace hr := hr.below hb
    replace hown := ownsRow_below hown hb
    replace ht := below_then ht hb ht.size
    clear hb
    clear hgR
    refine hK.out _ _ (nine0_of hp) (fun hHeld => ?_)
    clear hK K
    try simp only [Act.put, List.getElem_toArray, List.getElem_cons_succ, List.getElem_cons_zero, List.setIfInBounds_toArray, List.set_cons_succ, List.set_cons_zero]
    refine wpAnyH_ready (rs := [3]) (by kernel_rfl) (by simp) (AllReadyH.cons rfl (fun K hK => ?_) AllReadyH.nil)
    go_simp
    refine (onwardBy_any T lo E c Ls _ hown).mono ?_
    rintro e wdbo ⟨gB, rfl, hfn0, hb⟩
    replace hp := hp.below hb
    replace hr := hr.below hb
    replace hown := ownsRow_below hown hb
    replace hrow := hrow.below hb
    replace ht := below_then ht hb ht.size
    clear hb
    have hfn := hfn0
    clear hfn0
    unfold arrFnV
    refine hK.out _ _ (nine0_of hp) (fun hHeld => ?_)
    clear hK K
    try simp only [Act.put, List.getElem_toArray, List.getElem_cons_succ, List.getElem_cons_zero, List.setIfInBounds_toArray, List.set_cons_succ, List.set_cons_zero]
    refine wpAnyH_ready (rs := [6]) (by kernel_rfl) (by simp) (AllReadyH.cons rfl (fun K hK => ?_) AllReadyH.nil)
    go_simp
    have hlt := leastTimes_any T gB lo gR E c Ls y _ hfn HLS.out HUP.out HTT.out HYD.out hrow
    unfold arrFnV at hlt
    refine hlt.mono ?_
    clear hlt
    rintro e wdbot ⟨mb, rfl, hmap, hb⟩
    replace hp := hp.below hb
    replace hr := hr.below hb
    replace hown := ownsRow_below hown hb
    replace hfn := hfn.below hb
    replace hrow := hrow.below hb
    replace ht := below_then ht hb ht.size
    clear hb
    refine hK.out _ _ (nine0_of hp) (fun hHeld => ?_)
    clear hK K
    try simp only [Act.put, List.getElem_toArray, List.getElem_cons_succ, List.getElem_cons_zero, List.setIfInBounds_toArray, List.set_cons_succ, List.set_cons_zero]
    refine wpAnyH_take (i := 7) (v := ?_) rfl (by kernel_rfl) (by kernel_rfl) (by kernel_rfl) (fun _ _ _ h => h) (Or.inl ⟨rfl, ?_⟩) hHeld ?_
    rotate_left
    · intro w' hS; obtain ⟨s0, s1, s2, s3, s4, s5, s6, s7, s8⟩ := hS; go_simp <;> with_reducible rfl
    simp only [Act.put, List.getElem_toArray, List.getElem_cons_succ, List.getElem_cons_zero, List.setIfInBounds_toArray, List.set_cons_succ, List.set_cons_zero]
    refine wpAnyH_ready (rs := [8]) (by kernel_rfl) (by simp) (AllReadyH.cons rfl (fun K hK => ?_) AllReadyH.nil)
    refine wp_store_row 78 (.tmp 4) (.tmp 15) rfl (w.heap.size) #[.slice E Ls.length c, .bool (pf 4 y 0), .bool (pf 4 y 1), .bool (pf 4 y 2), .bool (pf 4 y 3), .bool (pf 4 y 4), .bool (pf 4 y 5), .bool (pf 4 y 6), .bool (pf 4 y 7), .bool (pt y), .map (some mb)] rfl rfl 78 #[.slice none 0 0, .bool false, .bool false, .bool false, .bool false, .bool false, .bool false, .bool false, .bool false, .bool false, .map none] hr size_routes rfl (by simp [Value.oneCell']) ?_
    have o9 := only_setRow wdbot (w.heap.size) #[.slice E Ls.length c, .bool (pf 4 y 0), .bool (pf 4 y 1), .bool (pf 4 y 2), .bool (pf 4 y 3), .bool (pf 4 y 4), .bool (pf 4 y 5), .bool (pf 4 y 6), .bool (pf 4 y 7), .bool (pt y), .map (some mb)]
    have x9 := whole_setRow #[.slice E Ls.length c, .bool (pf 4 y 0), .bool (pf 4 y 1), .bool (pf 4 y 2), .bool (pf 4 y 3), .bool (pf 4 y 4), .bool (pf 4 y 5), .bool (pf 4 y 6), .bool (pf 4 y 7), .bool (pt y), .map (some mb)] hr
    have p9 := o9.whole hp (by omega)
    have t9 := o9.below ht (Nat.le_refl _)
    have f9 := own_only hown o9 hr (by decide)
    have m9 := map_only hmap o9 hr
    generalize World.setRow wdbot (w.heap.size) #[.slice E Ls.length c, .bool (pf 4 y 0), .bool (pf 4 y 1), .bool (pf 4 y 2), .bool (pf 4 y 3), .bool (pf 4 y 4), .bool (pf 4 y 5), .bool (pf 4 y 6), .bool (pf 4 y 7), .bool (pt y), .map (some mb)] = w9 at o9 x9 p9 t9 f9 m9 ⊢
    refine hK.out _ _ (nine0_of p9) (fun hHeld => ?_)
    clear hK K
    try simp only [Act.put, List.getElem_toArray, List.getElem_cons_succ, List.getElem_cons_zero, List.setIfInBounds_toArray, List.set_cons_succ, List.set_cons_zero]
    refine wpAnyH_done (by kernel_rfl) ?_ _
    clear hHeld
    have X9 := Lib.hid x9
    have T9 := Lib.hid t9
    have F9 := Lib.hid f9
    have M9 := Lib.hid m9
    obtain ⟨r0, r1, r2, r3, r4, r5, r6, r7, r8, r9, r10⟩ := cells11 x9
    have hl9 := x9.lt
    clear x9 o9 p9 t9 f9 m9 hp hr hown hmap ht hfn hrow
    go_wp2_with fail
    exact bodyPost_ret (v := .agg #[.slice E Ls.length c, .bool (pf 4 y 0), .bool (pf 4 y 1), .bool (pf 4 y 2), .bool (pf 4 y 3), .bool (pf 4 y 4), .bool (pf 4 y 5), .bool (pf 4 y 6), .bool (pf 4 y 7), .bool (pt y), .map (some mb)]) (by simp [results, Try.results138, go_sem, r0, r1, r2, r3, r4, r5, r6, r7, r8, r9, r10]) rfl ⟨mb, by rw [routeC], F9.out, M9.out, T9.out⟩

set_option maxHeartbeats 12800000 in
set_option maxRecDepth 100000 in
set_option linter.unusedVariables false in
set_option linter.unusedSimpArgs false in
theorem routesOf_any (A : Option Addr) (n c q : Nat) (xs : List Int) (w : World) (hA0 : Holds w A (nums xs)) (hx : xs.length = n) (h1 : 1 ≤ n) (hn : n ≤ 8) (hq8 : q ≤ 8) (hxs : ∀ y ∈ xs, 1 ≤ y ∧ y ≤ 1000) :
    Calls Try.prog 109 #[.agg #[.slice A n c, .int .i64 (q : Int)]] w fun e w' => ∃ (E : Option Addr) (cE mb : Nat), e = .returned (.agg (routeC E (upLists n q).length cE (codeOf (trues n) true) mb)) ∧ w'.ownsRow w.heap.size 89 9 (.slice E (upLists n q).length cE) (upLists n q).length (legsCells (slowOf xs) (upLists n q)) ∧ PlaceMap w' mb (partyD xs n q (codeOf (trues n) true)) ∧ Below w.heap.size w w' := by
  have hA := Lib.hid hA0
  have HX := Lib.hid hx
  have HLS := Lib.hid (upLists_small (n := n) (m := q) hn)
  have HUP : Hid (∀ l ∈ upLists n q, l ∈ upLists (2 * 4) (2 * 4)) := fun l hl => up_wide (up_all hl) (by omega)
  have HTT : Hid (∀ l ∈ upLists n q, 1 ≤ slowOf xs l ∧ slowOf xs l ≤ 1000000) := fun l hl => by
    have h2 := (slow_boundF (l := l) (fun y hy => (hxs y hy).1) (fun y hy => (hxs y hy).2)).2
    exact ⟨slow_one hx (fun y hy => (hxs y hy).1) hl, by omega⟩
  have hq := (Whole.fresh w 28 #[.slice A n c, .int .i64 (q : Int)]).alloc (.cells #[.slice none 0 0, .bool false, .bool false, .bool false, .bool false, .bool false, .bool false, .bool false, .bool false, .bool false, .map none] 78)
  have hr := Whole.fresh (w.alloc (.cells #[.slice A n c, .int .i64 (q : Int)] 28)) 78 #[.slice none 0 0, .bool false, .bool false, .bool false, .bool false, .bool false, .bool false, .bool false, .bool false, .bool false, .map none]
  rw [World.size_alloc] at hr
  have ht := below2 w (.cells #[.slice A n c, .int .i64 (q : Int)] 28) (.cells #[.slice none 0 0, .bool false, .bool false, .bool false, .bool false, .bool false, .bool false, .bool false, .bool false, .bool false, .map none] 78)
  clear hA0 hx hxs
  go_enter Try.func109, Try.ntmps109
  go_wp2_with fail
  refine wp_region_held_drew (S := (Two w.heap.size (.slice A n c) (.int .i64 (q : Int)))) (by kernel_rfl) (two_of hq.drew) (fun hHeld => ?_)
  replace hq := hq.drew
  replace hr := hr.drew
  replace ht := ht.drew
  generalize World.drew ((w.alloc (.cells #[.slice A n c, .int .i64 (q : Int)] 28)).alloc (.cells #[.slice none 0 0, .bool false, .bool false, .bool false, .bool false, .bool false, .bool false, .bool false, .bool false, .bool false, .map none] 78)) = we at hq hr ht hHeld ⊢
  refine wpAnyH_take (i := 0) (v := ?_) rfl (by kernel_rfl) (by kernel_rfl) (by kernel_rfl) (fun _ _ _ h => h) (Or.inl ⟨rfl, ?_⟩) hHeld ?_
  rotate_left
  · intro w' hS; obtain ⟨s0, s1⟩ := hS; go_simp <;> with_reducible rfl
  simp only [Act.put, List.getElem_toArray, List.getElem_cons_succ, List.getElem_cons_zero, List.setIfInBounds_toArray, List.set_cons_succ, List.set_cons_zero]
  refine wpAnyH_take (i := 2) (v := ?_) rfl (by kernel_rfl) (by kernel_rfl) (by kernel_rfl) (fun _ _ _ h => h) (Or.inl ⟨rfl, ?_⟩) hHeld ?_
  rotate_left
  · intro w' hS; obtain ⟨s0, s1⟩ := hS; go_simp <;> with_reducible rfl
  simp only [Act.put, List.getElem_toArray, List.getElem_cons_succ, List.getElem_cons_zero, List.setIfInBounds_toArray, List.set_cons_succ, List.set_cons_zero]
  refine wpAnyH_take (i := 3) (v := ?_) rfl (by kernel_rfl) (by kernel_rfl) (by kernel_rfl) (fun _ _ _ h => h) (Or.inl ⟨rfl, ?_⟩) hHeld ?_
  rotate_left
  · intro w' hS; obtain ⟨s0, s1⟩ := hS; go_simp <;> with_reducible rfl
  simp only [Act.put, List.getElem_toArray, List.getElem_cons_succ, List.getElem_cons_zero, List.setIfInBounds_toArray, List.set_cons_succ, List.set_cons_zero]
  refine wpAnyH_take (i := 4) (v := ?_) rfl (by kernel_rfl) (by kernel_rfl) (by kernel_rfl) (fun _ _ _ h => h) (Or.inl ⟨rfl, ?_⟩) hHeld ?_
  rotate_left
  · intro w' hS; obtain ⟨s0, s1⟩ := hS; go_simp <;> with_reducible rfl
  simp only [Act.put, List.getElem_toArray, List.getElem_cons_succ, List.getElem_cons_zero, List.setIfInBounds_toArray, List.set_cons_succ, List.set_cons_zero]
  refine wpAnyH_ready (rs := [1]) (by kernel_rfl) (by simp) (AllReadyH.cons rfl (fun K hK => ?_) AllReadyH.nil)
  go_simp
  refine (legsOf_any A n c q xs _ (hA.out.below ht) HX.out hn hq8).mono ?_
  rintro e wel ⟨E, cE, rfl, hown, hb⟩
  have hbl := ht.size
  replace hq := hq.below hb
  replace hr := hr.below hb
  replace ht := below_then ht hb ht.size
  clear hb
  refine hK.out _ _ (two_of hq) (fun hHeld => ?_)
  clear hK K
  try simp only [Act.put, List.getElem_toArray, List.getElem_cons_succ, List.getElem_cons_zero, List.setIfInBounds_toArray, List.set_cons_succ, List.set_cons_zero]
  refine wpAnyH_ready (rs := [5]) (by kernel_rfl) (by simp) (AllReadyH.cons rfl (fun K hK => ?_) AllReadyH.nil)
  go_simp
  refine (routesBy_any (slowOf xs) _ E cE (upLists n q) n _ hown HLS.out HUP.out HTT.out h1 hn).mono ?_
  rintro e welb ⟨mb, rfl, hown2, hmap, hb⟩
  replace hq := hq.below hb
  replace hr := hr.below hb
  replace ht := below_then ht hb ht.size
  clear hb hown
  unfold routeC
  refine hK.out _ _ (two_of hq) (fun hHeld => ?_)
  clear hK K
  try simp only [Act.put, List.getElem_toArray, List.getElem_cons_succ, List.getElem_cons_zero, List.setIfInBounds_toArray, List.set_cons_succ, List.set_cons_zero]
  refine wpAnyH_ready (rs := [6]) (by kernel_rfl) (by simp) (AllReadyH.cons rfl (fun K hK => ?_) AllReadyH.nil)
  refine wp_store_row 78 (.tmp 2) (.tmp 8) rfl (w.heap.size + 1) #[.slice E (upLists n q).length cE, .bool (pf 4 (codeOf (trues n) true) 0), .bool (pf 4 (codeOf (trues n) true) 1), .bool (pf 4 (codeOf (trues n) true) 2), .bool (pf 4 (codeOf (trues n) true) 3), .bool (pf 4 (codeOf (trues n) true) 4), .bool (pf 4 (codeOf (trues n) true) 5), .bool (pf 4 (codeOf (trues n) true) 6), .bool (pf 4 (codeOf (trues n) true) 7), .bool (pt (codeOf (trues n) true)), .map (some mb)] rfl rfl 78 #[.slice none 0 0, .bool false, .bool false, .bool false, .bool false, .bool false, .bool false, .bool false, .bool false, .bool false, .map none] hr size_routes rfl (by simp [Value.oneCell']) ?_
  have o9 := only_setRow welb (w.heap.size + 1) #[.slice E (upLists n q).length cE, .bool (pf 4 (codeOf (trues n) true) 0), .bool (pf 4 (codeOf (trues n) true) 1), .bool (pf 4 (codeOf (trues n) true) 2), .bool (pf 4 (codeOf (trues n) true) 3), .bool (pf 4 (codeOf (trues n) true) 4), .bool (pf 4 (codeOf (trues n) true) 5), .bool (pf 4 (codeOf (trues n) true) 6), .bool (pf 4 (codeOf (trues n) true) 7), .bool (pt (codeOf (trues n) true)), .map (some mb)]
  have x9 := whole_setRow #[.slice E (upLists n q).length cE, .bool (pf 4 (codeOf (trues n) true) 0), .bool (pf 4 (codeOf (trues n) true) 1), .bool (pf 4 (codeOf (trues n) true) 2), .bool (pf 4 (codeOf (trues n) true) 3), .bool (pf 4 (codeOf (trues n) true) 4), .bool (pf 4 (codeOf (trues n) true) 5), .bool (pf 4 (codeOf (trues n) true) 6), .bool (pf 4 (codeOf (trues n) true) 7), .bool (pt (codeOf (trues n) true)), .map (some mb)] hr
  have q9 := o9.whole hq (by omega)
  have t9 := o9.below ht (by omega)
  have f9 := own_lower (own_only hown2 o9 hr (by decide)) hbl
  have m9 := map_only hmap o9 hr
  generalize World.setRow welb (w.heap.size + 1) #[.slice E (upLists n q).length cE, .bool (pf 4 (codeOf (trues n) true) 0), .bool (pf 4 (codeOf (trues n) true) 1), .bool (pf 4 (codeOf (trues n) true) 2), .bool (pf 4 (codeOf (trues n) true) 3), .bool (pf 4 (codeOf (trues n) true) 4), .bool (pf 4 (codeOf (trues n) true) 5), .bool (pf 4 (codeOf (trues n) true) 6), .bool (pf 4 (codeOf (trues n) true) 7), .bool (pt (codeOf (trues n) true)), .map (some mb)] = w9 at o9 x9 q9 t9 f9 m9 ⊢
  refine hK.out _ _ (two_of q9) (fun hHeld => ?_)
  clear hK K
  try simp only [Act.put, List.getElem_toArray, List.getElem_cons_succ, List.getElem_cons_zero, List.setIfInBounds_toArray, List.set_cons_succ, List.set_cons_zero]
  refine wpAnyH_done (by kernel_rfl) ?_ _
  clear hHeld
  have T9 := Lib.hid t9
  have F9 := Lib.hid f9
  have M9 := Lib.hid m9
  obtain ⟨r0, r1, r2, r3, r4, r5, r6, r7, r8, r9, r10⟩ := cells11 x9
  have hl9 := x9.lt
  clear x9 o9 q9 t9 f9 m9 hq hr hown2 hmap ht
  go_wp2_with fail
  exact bodyPost_ret (v := .agg #[.slice E (upLists n q).length cE, .bool (pf 4 (codeOf (trues n) true) 0), .bool (pf 4 (codeOf (trues n) true) 1), .bool (pf 4 (codeOf (trues n) true) 2), .bool (pf 4 (codeOf (trues n) true) 3), .bool (pf 4 (codeOf (trues n) true) 4), .bool (pf 4 (codeOf (trues n) true) 5), .bool (pf 4 (codeOf (trues n) true) 6), .bool (pf 4 (codeOf (trues n) true) 7), .bool (pt (codeOf (trues n) true)), .map (some mb)]) (by simp [results, Try.results109, go_sem, r0, r1, r2, r3, r4, r5, r6, r7, r8, r9, r10]) rfl ⟨E, cE, mb, by rw [routeC], F9.out, M9.out, T9.out⟩
end Go.Proofs.Ytlpeimlbpiofkaa
