/-
  What is proved: the contract of the program's SlowParty. Conditions: the party's times are read as they lie.
-/
import Derived.Test.YtionmcgaicijkaaSlow
import Derived.Test.YtionmcgaicijkaaPaPlay
import Derived.Test.YtionmcgaicijkaaMid
import Derived.Deep.RegionHeld3
import Derived.Deep.DeepCutAuto
import Derived.IntWalk
import Derived.BigGuardPart
namespace Go.Proofs.Ytionmcgaicijkaa
open Go.RowKit Go.BigFrame

set_option maxHeartbeats 1600000 in
set_option linter.unusedSimpArgs false in
set_option maxRecDepth 100000 in
theorem implSlow_no1 (A : Option Addr) (n c : Nat) (xs : List Int) (s k : Int) (w : World) (hA : Holds w A (nums xs)) (hx : xs.length = n) (hn : n ≤ 1048576) (hp : isParty xs s = false) :
    Calls Try.prog 53 #[.agg #[.slice A n c, .int .i64 s], .int .i64 k] w (PartyPost (slowXs xs s k) (slowSeats xs s k) (slowOk xs s k) w) := by
  have HX := Lib.hid hx
  have hA2 := (hA.alloc (.cells #[.slice A n c, .int .i64 s] 33)).alloc (.cells #[.slice none 0 0, .int .i64 0] 33)
  have h0 := (Whole.fresh w 33 #[.slice A n c, .int .i64 s]).alloc (.cells #[.slice none 0 0, .int .i64 0] 33)
  have h1 := Whole.fresh (w.alloc (.cells #[.slice A n c, .int .i64 s] 33)) 33 #[.slice none 0 0, .int .i64 0]
  rw [World.size_alloc] at h1
  have HS := Lib.hid (show slowOk xs s k = false by simp [slowOk, hp])
  have HP := Lib.hid hp
  obtain ⟨q0, q1, -, -⟩ := h0.two
  clear hp hx
  go_enter Try.func53, Try.ntmps53
  go_wp2_with fail
  refine wp_region_any (by kernel_rfl) ?_
  change wpAny _ _ _ _ _ _ _ (World.drew _)
  refine wpAny_ready (rs := [0]) (by kernel_rfl) (by simp) (allReady_want rfl rfl (fun K hK => ?_) AllReady.nil)
  go_simp
  refine hK _ _ ?_
  clear hK K
  refine wpAny_ready (rs := [1]) (by kernel_rfl) (by simp) (allReady_want rfl rfl (fun K hK => ?_) AllReady.nil)
  go_simp
  refine (isParty_any A n c xs s _ (by exact hA2.drew) HX.out (by omega)).mono ?_
  rintro e w1 ⟨rfl, hb⟩
  rw [HP.out]
  have ht := below_then (below2 w (.cells #[.slice A n c, .int .i64 s] 33) (.cells #[.slice none 0 0, .int .i64 0] 33)).drew hb (by simp; omega)
  have hr := h1.drew.below hb
  have hlr := hr.lt
  obtain ⟨r0, r1, f0, f1⟩ := hr.two
  clear h0 h1 hb hA2 q0 q1 hr
  refine hK _ _ ?_
  clear hK K
  try simp only [Act.put, List.setIfInBounds_toArray, List.set_cons_zero, List.set_cons_succ]
  refine wpAny_take (i := 2) (v := .bool true) rfl (by kernel_rfl) (by kernel_rfl) (by kernel_rfl) (fun _ _ _ h => h) (Or.inl ⟨rfl, fun w => by go_simp⟩) ?_
  simp only [Act.put, List.getElem_toArray, List.getElem_cons_succ, List.getElem_cons_zero, List.setIfInBounds_toArray, List.set_cons_succ, List.set_cons_zero]
  refine wpAny_take (i := 3) (v := .bool true) rfl (by kernel_rfl) (by kernel_rfl) (by kernel_rfl) (fun _ _ _ h => h) (Or.inl ⟨rfl, fun w => by go_simp⟩) ?_
  simp only [Act.put, List.getElem_toArray, List.getElem_cons_succ, List.getElem_cons_zero, List.setIfInBounds_toArray, List.set_cons_succ, List.set_cons_zero]
  refine wpAny_take (i := 4) (v := undef) rfl (by kernel_rfl) (by kernel_rfl) (by kernel_rfl) (fun _ _ _ h => h) (Or.inr ⟨by simp [Region.wanted, yielded], rfl⟩) ?_
  simp only [Act.put, List.getElem_toArray, List.getElem_cons_succ, List.getElem_cons_zero, List.setIfInBounds_toArray, List.set_cons_succ, List.set_cons_zero]
  refine wpAny_take (i := 5) (v := undef) rfl (by kernel_rfl) (by kernel_rfl) (by kernel_rfl) (fun _ _ _ h => h) (Or.inr ⟨by simp [Region.wanted, yielded], rfl⟩) ?_
  simp only [Act.put, List.getElem_toArray, List.getElem_cons_succ, List.getElem_cons_zero, List.setIfInBounds_toArray, List.set_cons_succ, List.set_cons_zero]
  refine wpAny_take (i := 6) (v := .bool true) rfl (by kernel_rfl) (by kernel_rfl) (by kernel_rfl) (fun _ _ _ h => h) (Or.inl ⟨rfl, fun w => by go_simp⟩) ?_
  simp only [Act.put, List.getElem_toArray, List.getElem_cons_succ, List.getElem_cons_zero, List.setIfInBounds_toArray, List.set_cons_succ, List.set_cons_zero]
  refine wpAny_take (i := 7) (v := .bool true) rfl (by kernel_rfl) (by kernel_rfl) (by kernel_rfl) (fun _ _ _ h => h) (Or.inl ⟨rfl, fun w => by go_simp⟩) ?_
  simp only [Act.put, List.getElem_toArray, List.getElem_cons_succ, List.getElem_cons_zero, List.setIfInBounds_toArray, List.set_cons_succ, List.set_cons_zero]
  refine wpAny_take (i := 8) (v := undef) rfl (by kernel_rfl) (by kernel_rfl) (by kernel_rfl) (fun _ _ _ h => h) (Or.inr ⟨by simp [Region.wanted, yielded], rfl⟩) ?_
  simp only [Act.put, List.getElem_toArray, List.getElem_cons_succ, List.getElem_cons_zero, List.setIfInBounds_toArray, List.set_cons_succ, List.set_cons_zero]
  refine wpAny_take (i := 9) (v := undef) rfl (by kernel_rfl) (by kernel_rfl) (by kernel_rfl) (fun _ _ _ h => h) (Or.inr ⟨by simp [Region.wanted, yielded], rfl⟩) ?_
  simp only [Act.put, List.getElem_toArray, List.getElem_cons_succ, List.getElem_cons_zero, List.setIfInBounds_toArray, List.set_cons_succ, List.set_cons_zero]
  refine wpAny_take (i := 10) (v := undef) rfl (by kernel_rfl) (by kernel_rfl) (by kernel_rfl) (fun _ _ _ h => h) (Or.inr ⟨by simp [Region.wanted, yielded], rfl⟩) ?_
  simp only [Act.put, List.getElem_toArray, List.getElem_cons_succ, List.getElem_cons_zero, List.setIfInBounds_toArray, List.set_cons_succ, List.set_cons_zero]
  refine wpAny_take (i := 11) (v := undef) rfl (by kernel_rfl) (by kernel_rfl) (by kernel_rfl) (fun _ _ _ h => h) (Or.inr ⟨by simp [Region.wanted, yielded], rfl⟩) ?_
  simp only [Act.put, List.getElem_toArray, List.getElem_cons_succ, List.getElem_cons_zero, List.setIfInBounds_toArray, List.set_cons_succ, List.set_cons_zero]
  refine wpAny_take (i := 12) (v := undef) rfl (by kernel_rfl) (by kernel_rfl) (by kernel_rfl) (fun _ _ _ h => h) (Or.inr ⟨by simp [Region.wanted, yielded], rfl⟩) ?_
  simp only [Act.put, List.getElem_toArray, List.getElem_cons_succ, List.getElem_cons_zero, List.setIfInBounds_toArray, List.set_cons_succ, List.set_cons_zero]
  refine wpAny_take (i := 13) (v := undef) rfl (by kernel_rfl) (by kernel_rfl) (by kernel_rfl) (fun _ _ _ h => h) (Or.inr ⟨by simp [Region.wanted, yielded], rfl⟩) ?_
  simp only [Act.put, List.getElem_toArray, List.getElem_cons_succ, List.getElem_cons_zero, List.setIfInBounds_toArray, List.set_cons_succ, List.set_cons_zero]
  refine wpAny_take (i := 14) (v := .bool true) rfl (by kernel_rfl) (by kernel_rfl) (by kernel_rfl) (fun _ _ _ h => h) (Or.inl ⟨rfl, fun w => by go_simp⟩) ?_
  simp only [Act.put, List.getElem_toArray, List.getElem_cons_succ, List.getElem_cons_zero, List.setIfInBounds_toArray, List.set_cons_succ, List.set_cons_zero]
  refine wpAny_done (by kernel_rfl) ?_ _
  go_wp2
  refine bodyPost_ret (v := .tuple #[.agg #[.slice none 0 0, .int .i64 0], .bool false]) (by simp [results, Try.results53, go_sem, r0, r1]) rfl ⟨none, 0, by rw [(slow_no HS.out).1, (slow_no HS.out).2, HS.out]; rfl, by rw [(slow_no HS.out).1]; exact .inl rfl, ?_⟩
  exact below_set (below_set ht (by omega)) (by omega)

set_option maxHeartbeats 1600000 in
set_option linter.unusedSimpArgs false in
set_option maxRecDepth 100000 in
theorem implSlow_no2 (A : Option Addr) (n c : Nat) (xs : List Int) (s k : Int) (w : World) (hA : Holds w A (nums xs)) (hx : xs.length = n) (hn : n ≤ 1048576) (hp : isParty xs s = true) (hk1 : k < 1) :
    Calls Try.prog 53 #[.agg #[.slice A n c, .int .i64 s], .int .i64 k] w (PartyPost (slowXs xs s k) (slowSeats xs s k) (slowOk xs s k) w) := by
  have HX := Lib.hid hx
  have hA2 := (hA.alloc (.cells #[.slice A n c, .int .i64 s] 33)).alloc (.cells #[.slice none 0 0, .int .i64 0] 33)
  have h0 := (Whole.fresh w 33 #[.slice A n c, .int .i64 s]).alloc (.cells #[.slice none 0 0, .int .i64 0] 33)
  have h1 := Whole.fresh (w.alloc (.cells #[.slice A n c, .int .i64 s] 33)) 33 #[.slice none 0 0, .int .i64 0]
  rw [World.size_alloc] at h1
  have HS := Lib.hid (show slowOk xs s k = false by simp [slowOk, within]; omega)
  have HP := Lib.hid hp
  obtain ⟨q0, q1, -, -⟩ := h0.two
  have hd : decide (k < 1) = true := by simpa using hk1
  clear hp hx
  go_enter Try.func53, Try.ntmps53
  go_wp2_with fail
  refine wp_region_any (by kernel_rfl) ?_
  change wpAny _ _ _ _ _ _ _ (World.drew _)
  refine wpAny_ready (rs := [0]) (by kernel_rfl) (by simp) (allReady_want rfl rfl (fun K hK => ?_) AllReady.nil)
  go_simp
  refine hK _ _ ?_
  clear hK K
  refine wpAny_ready (rs := [1]) (by kernel_rfl) (by simp) (allReady_want rfl rfl (fun K hK => ?_) AllReady.nil)
  go_simp
  refine (isParty_any A n c xs s _ (by exact hA2.drew) HX.out (by omega)).mono ?_
  rintro e w1 ⟨rfl, hb⟩
  rw [HP.out]
  have ht := below_then (below2 w (.cells #[.slice A n c, .int .i64 s] 33) (.cells #[.slice none 0 0, .int .i64 0] 33)).drew hb (by simp; omega)
  have hr := h1.drew.below hb
  have hlr := hr.lt
  obtain ⟨r0, r1, f0, f1⟩ := hr.two
  clear h0 h1 hb hA2 q0 q1 hr
  refine hK _ _ ?_
  clear hK K
  try simp only [Act.put, List.setIfInBounds_toArray, List.set_cons_zero, List.set_cons_succ]
  refine wpAny_take (i := 2) (v := .bool false) rfl (by kernel_rfl) (by kernel_rfl) (by kernel_rfl) (fun _ _ _ h => h) (Or.inl ⟨rfl, fun w => by go_simp⟩) ?_
  simp only [Act.put, List.getElem_toArray, List.getElem_cons_succ, List.getElem_cons_zero, List.setIfInBounds_toArray, List.set_cons_succ, List.set_cons_zero]
  refine wpAny_take (i := 3) (v := .bool false) rfl (by kernel_rfl) (by kernel_rfl) (by kernel_rfl) (fun _ _ _ h => h) (Or.inl ⟨rfl, fun w => by go_simp⟩) ?_
  simp only [Act.put, List.getElem_toArray, List.getElem_cons_succ, List.getElem_cons_zero, List.setIfInBounds_toArray, List.set_cons_succ, List.set_cons_zero]
  refine wpAny_take (i := 4) (v := .int .i64 k) rfl (by kernel_rfl) (by kernel_rfl) (by kernel_rfl) (fun _ _ _ h => h) (Or.inl ⟨rfl, fun w => by go_simp⟩) ?_
  simp only [Act.put, List.getElem_toArray, List.getElem_cons_succ, List.getElem_cons_zero, List.setIfInBounds_toArray, List.set_cons_succ, List.set_cons_zero]
  refine wpAny_take (i := 5) (v := .bool true) rfl (by kernel_rfl) (by kernel_rfl) (by kernel_rfl) (fun _ _ _ h => h) (Or.inl ⟨rfl, fun w => by go_simp⟩) ?_
  simp only [Act.put, List.getElem_toArray, List.getElem_cons_succ, List.getElem_cons_zero, List.setIfInBounds_toArray, List.set_cons_succ, List.set_cons_zero]
  refine wpAny_take (i := 6) (v := .bool true) rfl (by kernel_rfl) (by kernel_rfl) (by kernel_rfl) (fun _ _ _ h => h) (Or.inl ⟨rfl, fun w => by go_simp⟩) ?_
  simp only [Act.put, List.getElem_toArray, List.getElem_cons_succ, List.getElem_cons_zero, List.setIfInBounds_toArray, List.set_cons_succ, List.set_cons_zero]
  refine wpAny_take (i := 7) (v := .bool true) rfl (by kernel_rfl) (by kernel_rfl) (by kernel_rfl) (fun _ _ _ h => h) (Or.inl ⟨rfl, fun w => by go_simp⟩) ?_
  simp only [Act.put, List.getElem_toArray, List.getElem_cons_succ, List.getElem_cons_zero, List.setIfInBounds_toArray, List.set_cons_succ, List.set_cons_zero]
  refine wpAny_take (i := 8) (v := undef) rfl (by kernel_rfl) (by kernel_rfl) (by kernel_rfl) (fun _ _ _ h => h) (Or.inr ⟨by simp [Region.wanted, yielded], rfl⟩) ?_
  simp only [Act.put, List.getElem_toArray, List.getElem_cons_succ, List.getElem_cons_zero, List.setIfInBounds_toArray, List.set_cons_succ, List.set_cons_zero]
  refine wpAny_take (i := 9) (v := undef) rfl (by kernel_rfl) (by kernel_rfl) (by kernel_rfl) (fun _ _ _ h => h) (Or.inr ⟨by simp [Region.wanted, yielded], rfl⟩) ?_
  simp only [Act.put, List.getElem_toArray, List.getElem_cons_succ, List.getElem_cons_zero, List.setIfInBounds_toArray, List.set_cons_succ, List.set_cons_zero]
  refine wpAny_take (i := 10) (v := undef) rfl (by kernel_rfl) (by kernel_rfl) (by kernel_rfl) (fun _ _ _ h => h) (Or.inr ⟨by simp [Region.wanted, yielded], rfl⟩) ?_
  simp only [Act.put, List.getElem_toArray, List.getElem_cons_succ, List.getElem_cons_zero, List.setIfInBounds_toArray, List.set_cons_succ, List.set_cons_zero]
  refine wpAny_take (i := 11) (v := undef) rfl (by kernel_rfl) (by kernel_rfl) (by kernel_rfl) (fun _ _ _ h => h) (Or.inr ⟨by simp [Region.wanted, yielded], rfl⟩) ?_
  simp only [Act.put, List.getElem_toArray, List.getElem_cons_succ, List.getElem_cons_zero, List.setIfInBounds_toArray, List.set_cons_succ, List.set_cons_zero]
  refine wpAny_take (i := 12) (v := undef) rfl (by kernel_rfl) (by kernel_rfl) (by kernel_rfl) (fun _ _ _ h => h) (Or.inr ⟨by simp [Region.wanted, yielded], rfl⟩) ?_
  simp only [Act.put, List.getElem_toArray, List.getElem_cons_succ, List.getElem_cons_zero, List.setIfInBounds_toArray, List.set_cons_succ, List.set_cons_zero]
  refine wpAny_take (i := 13) (v := undef) rfl (by kernel_rfl) (by kernel_rfl) (by kernel_rfl) (fun _ _ _ h => h) (Or.inr ⟨by simp [Region.wanted, yielded], rfl⟩) ?_
  simp only [Act.put, List.getElem_toArray, List.getElem_cons_succ, List.getElem_cons_zero, List.setIfInBounds_toArray, List.set_cons_succ, List.set_cons_zero]
  refine wpAny_take (i := 14) (v := .bool true) rfl (by kernel_rfl) (by kernel_rfl) (by kernel_rfl) (fun _ _ _ h => h) (Or.inl ⟨rfl, fun w => by go_simp⟩) ?_
  simp only [Act.put, List.getElem_toArray, List.getElem_cons_succ, List.getElem_cons_zero, List.setIfInBounds_toArray, List.set_cons_succ, List.set_cons_zero]
  refine wpAny_done (by kernel_rfl) ?_ _
  go_wp2
  refine bodyPost_ret (v := .tuple #[.agg #[.slice none 0 0, .int .i64 0], .bool false]) (by simp [results, Try.results53, go_sem, r0, r1]) rfl ⟨none, 0, by rw [(slow_no HS.out).1, (slow_no HS.out).2, HS.out]; rfl, by rw [(slow_no HS.out).1]; exact .inl rfl, ?_⟩
  exact below_set (below_set ht (by omega)) (by omega)

/-- The first j times made greater, the others not yet. -/
def partTimes (xs : List Int) (k : Int) (j : Nat) : List Int := times (xs.take j) k ++ xs.drop j
theorem partTimes_zero (xs : List Int) (k : Int) : partTimes xs k 0 = xs := by simp [partTimes, times]
theorem partTimes_all (xs : List Int) (k : Int) : partTimes xs k xs.length = times xs k := by simp [partTimes]
theorem partTimes_len (xs : List Int) (k : Int) {j : Nat} (h : j ≤ xs.length) : (partTimes xs k j).length = xs.length := by simp [partTimes, times]; omega
theorem partTimes_get (xs : List Int) (k : Int) {j : Nat} (h : j < xs.length) : (partTimes xs k j)[j]? = some xs[j] := by
  rw [partTimes, List.getElem?_append_right (by simp [times]; omega)]
  simp [times, h, Nat.min_eq_left (Nat.le_of_lt h)]
theorem partTimes_next (xs : List Int) (k : Int) {j : Nat} (h : j < xs.length) : (partTimes xs k j).set j (xs[j] * k) = partTimes xs k (j + 1) := by
  have hl : (times (xs.take j) k).length = j := by simp [times]; omega
  rw [partTimes, List.set_append_right _ _ (by omega), hl, Nat.sub_self, List.drop_eq_getElem_cons h, List.set_cons_zero]
  rw [partTimes, List.take_succ_eq_append_getElem h]
  simp only [times, List.map_append, List.map_cons, List.map_nil, List.append_assoc, List.singleton_append]
theorem Fresh.look {w : World} {lo hi k : Nat} {ty : TypeId} {A : Option Addr} {xs : List Value} {u : Value} (hf : Fresh w lo hi ty A xs) (hk : xs[k]? = some u) :
    ∃ g, A = some ⟨g, 0, none⟩ ∧ lo ≤ g ∧ g < hi ∧ g < w.heap.size ∧ w.cell? ⟨g, k, none⟩ = some u ∧ w.frozen? ⟨g, k, none⟩ = false ∧ ∀ v, Fresh (w.setCell ⟨g, k, none⟩ v) lo hi ty A (xs.set k v) := by
  have hl : k < xs.length := (List.getElem?_eq_some_iff.1 hk).1
  obtain ⟨g, u', rfl, h1, h2, h3, hc, hfr, ht⟩ := hf.turn hl
  refine ⟨g, rfl, h1, h2, h3, ?_, hfr, ht⟩
  obtain ⟨b, o, hA, -, hcell⟩ := hf.holds.look hl
  obtain ⟨rfl, rfl⟩ : g = b ∧ 0 = o := by simpa using hA
  rw [Nat.zero_add] at hcell
  rw [hcell, ← hk]
  simp [hl]

set_option maxHeartbeats 6400000 in
set_option maxRecDepth 100000 in
theorem implSlow_on (A : Option Addr) (n c : Nat) (xs : List Int) (s k : Int) (w : World) (hA : Holds w A (nums xs)) (hx : xs.length = n) (hn : n ≤ 1048576) (hp : isParty xs s = true) (hk1 : 1 ≤ k) (hkm : k ≤ 9223372036854775807) :
    Calls Try.prog 53 #[.agg #[.slice A n c, .int .i64 s], .int .i64 k] w (PartyPost (slowXs xs s k) (slowSeats xs s k) (slowOk xs s k) w) := by
  have h8 := isParty_le hp
  have hpos : 0 < xs.length := by
    simp only [isParty, Bool.and_eq_true] at hp
    have := (within_iff.1 hp.1).1
    omega
  obtain ⟨b0, o0, rfl, hbl, hcells⟩ := hA.spot (by rw [nums_len]; exact hpos)
  have HX := Lib.hid hx
  have HCE := Lib.hid hcells
  have hA2 := (hA.alloc (.cells #[.slice (some ⟨b0, o0, none⟩) n c, .int .i64 s] 33)).alloc (.cells #[.slice none 0 0, .int .i64 0] 33)
  have h0 := (Whole.fresh w 33 #[.slice (some ⟨b0, o0, none⟩) n c, .int .i64 s]).alloc (.cells #[.slice none 0 0, .int .i64 0] 33)
  have h1 := Whole.fresh (w.alloc (.cells #[.slice (some ⟨b0, o0, none⟩) n c, .int .i64 s] 33)) 33 #[.slice none 0 0, .int .i64 0]
  rw [World.size_alloc] at h1
  have HB := Lib.hid (below2 w (.cells #[.slice (some ⟨b0, o0, none⟩) n c, .int .i64 s] 33) (.cells #[.slice none 0 0, .int .i64 0] 33))
  have hiff := slow_iff hp hk1
  have hall := party_all hp
  have hm1 : 1 ≤ mostOf xs := by
    have hne : xs ≠ [] := by intro e; subst e; simp at hpos
    have h := (mostOf_le hne (mostOf xs)).1 (Int.le_refl _) _ (List.getElem_mem hpos)
    have := hall _ (List.getElem_mem hpos)
    omega
  have hm2 : mostOf xs ≤ 1000 := by
    have hne : xs ≠ [] := by intro e; subst e; simp at hpos
    exact (mostOf_le hne 1000).2 fun y hy => (hall y hy).2
  have HMO : Hid (∀ y ∈ xs, y ≤ mostOf xs) := fun y hy => by
    have hne : xs ≠ [] := by intro e; subst e; simp at hpos
    exact (mostOf_le hne _).1 (Int.le_refl _) y hy
  rw [hx] at h8 hpos
  have HP := Lib.hid hp
  have HIFF := Lib.hid hiff
  have HALL := Lib.hid hall
  have hd : decide (k < 1) = false := by simp; omega
  have hk0 : (0 : Int) < k := by omega
  have hkn : ¬ k = 0 := by omega
  have hq0 : 0 ≤ 1000 / k := Int.ediv_nonneg (by omega) (by omega)
  have hq1 : 1000 / k ≤ 1000 := Int.ediv_le_self _ (by omega)
  have hw : IntKind.i64.wrap (Int.tdiv 1000 k) = 1000 / k := by
    rw [Int.tdiv_eq_ediv_of_nonneg (by omega)]
    exact IntWalk.i64_in _ (by omega)
  obtain ⟨q0, q1, -, -⟩ := h0.two
  clear hp hx hiff hall hcells
  have hdd : decide (IntKind.i64.wrap (Int.tdiv 1000 k) < mostOf xs) = decide (1000 / k < mostOf xs) := by rw [hw]
  have HDD := Lib.hid hdd
  clear hw hdd
  rcases (inferInstance : Decidable (1000 / k < mostOf xs)) with hlt | hlt
  all_goals
    first
      | (have hdt : decide (IntKind.i64.wrap (Int.tdiv 1000 k) < mostOf xs) = false := by rw [HDD.out]; simpa using hlt)
      | (have hdt : decide (IntKind.i64.wrap (Int.tdiv 1000 k) < mostOf xs) = true := by rw [HDD.out]; simpa using hlt)
    have HLT := Lib.hid hlt
    clear hlt
    go_enter Try.func53, Try.ntmps53
    go_wp2_with fail
    go_region_held3 (fun w' => w'.cell? ⟨w.heap.size, 0, none⟩ = some (.slice (some ⟨b0, o0, none⟩) n c) ∧ w'.cell? ⟨w.heap.size, 1, none⟩ = some (.int .i64 s)) (go_keep)
      (first | (go_at_call 77; refine (isParty_any _ n c xs s _ (by exact hA2.drew) HX.out (by omega)).mono ?_; rintro e w1 ⟨rfl, hb⟩; rw [HP.out]; obtain ⟨k0, k1, -, -⟩ := (h0.drew.below hb).two) | (go_at_call 88; refine (sliceMax_any _ n c xs _ (by exact hA2.drew.below hb) HX.out hpos (by omega)).mono ?_; rintro e w2 ⟨rfl, rfl⟩))
    have ht := below_then HB.out.drew hb (by simp; omega)
    have hr := h1.drew.below hb
    have hp1 := h0.drew.below hb
    have hlr := hr.lt
    have hbw : Below w.heap.size w w1 := ht
    clear h0 h1 hb hA2 q0 q1 HDD
  · -- nothing becomes too great
    have hok : slowOk xs s k = true := by rw [HIFF.out]; have := HLT.out; simp; omega
    obtain ⟨e1, e2⟩ := slow_yes hok
    have HR := Lib.hid (And.intro e1 (And.intro e2 hok))
    have HR1 := Lib.hid hr
    clear hok e1 e2 hr hbw
    obtain ⟨c0, c1, -, -⟩ := hp1.two
    have hpl := hp1.lt
    go_upto_region 3 with fail
    go_cut [6] (fun s6 wx => ResMid 33 3 (fun A q => #[.slice A n q, .int .i64 s]) (nums xs) true w1 s6 (.bool true) wx)
    case first =>
      go_region_held3 (fun w' => w'.cell? ⟨w.heap.size, 0, none⟩ = some (.slice (some ⟨b0, o0, none⟩) n c) ∧ w'.cell? ⟨w.heap.size, 1, none⟩ = some (.int .i64 s)) (go_keep)
        (first | (go_at_call 84; refine (cloneI_any b0 o0 n c xs _ (by first | (exact fun j u hu => (ht.drew.cell (p := ⟨b0, o0 + j, none⟩) hbl).trans (HCE.out j u hu)) | (exact fun j u hu => ((ht.alloc ht.size (.cells #[.slice none 0 0, .int .i64 0] 33)).drew.cell (p := ⟨b0, o0 + j, none⟩) hbl).trans (HCE.out j u hu))) HX.out hn).mono ?_; rintro e w2 ⟨A2, q2, rfl, hF, hb2⟩; rw [HX.out]; (first | (have hc2 : Below w1.heap.size w1 w2 := below_then (Below.refl w1.heap.size w1).drew hb2 (Nat.le_refl _); have hfl : w1.heap.size ≤ w1.drew.heap.size := Nat.le_refl _) | (have hc2 : Below w1.heap.size w1 w2 := below_then ((Below.refl w1.heap.size w1).alloc (Nat.le_refl _) (.cells #[.slice none 0 0, .int .i64 0] 33)).drew hb2 (by simp); have hbox := (Whole.fresh w1 33 #[.slice none 0 0, .int .i64 0]).drew.below hb2; have hy1 : w.heap.size < w1.heap.size := hpl; have hn1 : ¬ w1.heap.size = w.heap.size := (by omega); have hv1 : ¬ w.heap.size = w1.heap.size := (by omega); obtain ⟨x0, x1, x2, x3⟩ := hbox.two)); obtain ⟨k2, k3, -, -⟩ := (hp1.below hc2).two))
      all_goals (go_wp2_with fail; go_meet)
      all_goals first | exact ResMid.first hc2 (by first | exact Nat.le_refl _ | (simp; done)) hF (Nat.le_refl _) (by first | (simp; done) | omega) hbox rfl | exact ResMid.last hc2 (Nat.le_refl _) hF
    obtain ⟨g, A2, q2, lo, hi, rfl, -, hg1, hg2, hl1, hd1, hh1, hw1, hF, hb⟩ := hcut
    have hwg : Whole wc g 33 #[.slice A2 n q2, .int .i64 s] := hw1
    replace ht := below_then ht hb ht.size
    have hr := HR1.out.below hb
    clear hb hw1 c0 c1 hp1 HR1
    have HWG := Lib.hid hwg
    have HRR := Lib.hid hr
    have HT := Lib.hid ht
    have HF0 : Hid (Fresh wc lo hi 3 A2 (nums (partTimes xs k 0))) := by show Fresh _ _ _ _ _ _; rw [partTimes_zero]; exact hF
    clear hr ht hF
    obtain ⟨d0, d1, -, -⟩ := hwg.two
    clear hwg
    go_wp2
    go_loopw [33] (fun i wr => ∃ j : Nat, j ≤ n ∧ i = .int .i64 j ∧ Whole wr g 33 #[.slice A2 n q2, .int .i64 s] ∧ Whole wr (w.heap.size + 1) 33 #[.slice none 0 0, .int .i64 0] ∧ Fresh wr lo hi 3 A2 (nums (partTimes xs k j)) ∧ Below w.heap.size w wr ∧ hi ≤ wr.heap.size) (fun i _ => n - (intOf i).toNat)
    case atStart => exact ⟨0, Nat.zero_le _, rfl, HWG.out, HRR.out, HF0.out, HT.out, hh1⟩
    case round =>
      obtain ⟨j, hj, rfl, hwg, hr, hF, ht, hhi⟩ := hrel
      clear HWG HRR HF0 HT d0 d1
      obtain ⟨d0, d1, -, -⟩ := hwg.two
      by_cases hjn : j < n
      · have hjx : j < xs.length := by have := HX.out; omega
        have hgt : (nums (partTimes xs k j))[j]? = some (.int .i64 xs[j]) := by
          have := partTimes_get xs k hjx
          simp [nums, this]
        obtain ⟨g2, rfl, gl, gh, -, hcell, hfr, hturn⟩ := hF.look hgt
        have hb1 := HALL.out _ (List.getElem_mem hjx)
        have hb2 := HMO.out _ (List.getElem_mem hjx)
        have hprod : xs[j] * k ≤ 1000 := by
          have h3 : xs[j] ≤ 1000 / k := by have := HLT.out; omega
          exact (Int.le_ediv_iff_mul_le hk0).1 h3
        have hprod0 : 0 ≤ xs[j] * k := Int.mul_nonneg (by omega) (by omega)
        have hset := hturn (.int .i64 (xs[j] * k))
        rw [show (nums (partTimes xs k j)).set j (.int .i64 (xs[j] * k)) = nums (partTimes xs k (j + 1)) by rw [← partTimes_next xs k hjx]; simp [nums, List.map_set]] at hset
        have HSET := Lib.hid hset
        have HW2 := Lib.hid (hwg.off (b := g2) (o := j) (u := .int .i64 (xs[j] * k)) (by omega))
        have HR2 := Lib.hid (hr.off (b := g2) (o := j) (u := .int .i64 (xs[j] * k)) (by have := ht.size; omega))
        have HT2 := Lib.hid (below_set (o := j) (u := .int .i64 (xs[j] * k)) ht (show w.heap.size ≤ g2 by omega))
        have hwr : IntKind.i64.wrap (xs[j] * k) = xs[j] * k := IntWalk.i64_in _ (by omega)
        have hx1 := hb1.1
        have hx2 := hb1.2
        clear hgt hF hset hturn hb1 hb2 hwg hr
        go_wp2
        go_roundw
        case rel => exact ⟨j + 1, by omega, by go_num, HW2.out, HR2.out, HSET.out, HT2.out, by simpa [World.setCell] using hhi⟩
        case measure => simp [intOf]; omega
      · have hje : j = xs.length := by have := HX.out; omega
        rw [hje, partTimes_all] at hF
        obtain ⟨r0, r1, g0, g1⟩ := hr.two
        have hlw : w.heap.size + 1 < lo := by omega
        have hFF := ((hF.set_out (b := w.heap.size + 1) (o := 0) (u := .slice A2 n q2) (.inl hlw)).set_out (b := w.heap.size + 1) (o := 1) (u := .int .i64 s) (.inl hlw)).more (lo' := w.heap.size) (hi' := wr.heap.size) (by omega) hhi
        have HFF := Lib.hid hFF
        clear hje hF hFF hwg hr
        go_wp2
        refine bodyPost_ret (v := .tuple #[.agg #[.slice A2 n q2, .int .i64 s], .bool true]) (by simp [results, Try.results53, go_sem, r0, r1]) rfl ?_
        rw [HR.out.1, HR.out.2.1, HR.out.2.2]
        refine ⟨A2, q2, by rw [times_len, HX.out], ?_, below_set (below_set ht (by omega)) (by omega)⟩
        have h := HFF.out
        simpa [World.setCell] using h
  · have hok : slowOk xs s k = false := by rw [HIFF.out]; have := HLT.out; simp; omega
    obtain ⟨e1, e2⟩ := slow_no hok
    have HR := Lib.hid (And.intro e1 (And.intro e2 hok))
    obtain ⟨r0, r1, f0, f1⟩ := hr.two
    clear hok e1 e2 hr hp1
    go_wp2
    refine bodyPost_ret (v := .tuple #[.agg #[.slice none 0 0, .int .i64 0], .bool false]) (by simp [results, Try.results53, go_sem, r0, r1]) rfl ?_
    rw [HR.out.1, HR.out.2.1, HR.out.2.2]
    exact ⟨none, 0, rfl, .inl rfl, below_set (below_set ht (by omega)) (by omega)⟩

theorem implSlow_any (A : Option Addr) (n c : Nat) (xs : List Int) (s k : Int) (w : World) (hA : Holds w A (nums xs)) (hx : xs.length = n) (hn : n ≤ 1048576) (hkm : k ≤ 9223372036854775807) :
    Calls Try.prog 53 #[.agg #[.slice A n c, .int .i64 s], .int .i64 k] w (PartyPost (slowXs xs s k) (slowSeats xs s k) (slowOk xs s k) w) := by
  cases hp : isParty xs s
  · exact implSlow_no1 A n c xs s k w hA hx hn hp
  · by_cases hk : k < 1
    · exact implSlow_no2 A n c xs s k w hA hx hn hp hk
    · exact implSlow_on A n c xs s k w hA hx hn hp (by omega) hkm
end Go.Proofs.Ytionmcgaicijkaa
