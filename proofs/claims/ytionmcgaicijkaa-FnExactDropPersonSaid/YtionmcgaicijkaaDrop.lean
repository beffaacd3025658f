/-
  What is proved: contracts of a party without one person, as the model makes it; append onto a list of the call's own inside a region that draws. Conditions: the party's times are read as they lie.
-/
import Derived.Test.YtionmcgaicijkaaOwn
import Derived.Test.YtionmcgaicijkaaSlow
import Derived.Test.YtionmcgaicijkaaMid
import Derived.Deep.RegionHeld3
import Derived.Deep.DeepCutAuto
namespace Go.Proofs.Ytionmcgaicijkaa
open Go.RowKit

/-- append onto a list of the call's own, as a step of a region that draws its order; nothing may be appended too. -/
theorem step_append_mine {P : Program} {ops : Array Oper} {o : Oper} {a : Act} {w : World} {K : Act → World → Prop} {Q : Exit → Act → World → Prop} {E : Prop}
    (hg : o.guard = none) (s x : Operand) (t : TypeId) (hop : o.op = Op.call { callee := Callee.builtin Builtin.append, args := #[s, x], argTypes := #[t, t] })
    (base : Nat) (e : TypeId) (i : TypeInfo) (z : Value) (size bytes : Nat) (h1 : P.underlying t = some (.slice e)) (h2 : P.info? e = some i) (h3 : i.zero = some z) (h4 : i.size = size) (h5 : i.bytes = bytes) (h6 : z.cells.size = size) (h7 : 0 < size)
    (v : Value) (n : Nat) (xs : List Value) (hs : a.eval s = v) (hown : w.ownsRow base e size v n xs)
    (ad : Addr) (m c : Nat) (news : List Value) (hx : a.eval x = .slice (some ad) m c) (hn : news.length = m * size) (hc : ∀ j u, news[j]? = some u → w.cell? (ad.add j) = some u) (h1c : ∀ u ∈ news, u.oneCell' = true)
    (b1 : n + m ≤ maxLen) (b2 : (n + m) * bytes ≤ 140737488355328) (b3 : base ≤ w.heap.size)
    (hK : ∀ v' w', w'.ownsRow base e size v' (n + m) (xs ++ news) → w.grownBy w' v.ownBlock → K (a.put o.dst v') w') :
    if Region.wanted o (yielded ops a.tmps) = true then Oper.wp P o a w K Q else E := by
  have hw : Region.wanted o (yielded ops a.tmps) = true := by simp [Region.wanted, hg]
  rw [if_pos hw]
  obtain ⟨v', w', hrun, r1, r2, _⟩ := run_append_own (P := P) w base t o.type e i z size bytes h1 h2 h3 h4 h5 h6 h7 v n xs hown ad m c news hn hc h1c b1 b2 b3
  unfold Oper.wp
  simp [execOp, hop, resolve, invoke, builtin, hs, hx, hrun, Result.andThen]
  exact hK v' w' r1 r2

/-- Whether there is a party without that person. -/
def dropOk (xs : List Int) (s k : Int) : Bool := isParty xs s && (within k 0 (xs.length - 1) && !decide ((xs.length : Int) = 1))
/-- The times without that person's. -/
def lessOne (xs : List Int) (k : Nat) : List Int := xs.take k ++ xs.drop (k + 1)
def dropXs (xs : List Int) (s k : Int) : List Int := if dropOk xs s k then lessOne xs k.toNat else []
def dropSeats (xs : List Int) (s k : Int) : Int := if dropOk xs s k then s else 0
theorem lessOne_le (xs : List Int) (k : Nat) : (lessOne xs k).length ≤ xs.length := by
  simp only [lessOne, List.length_append, List.length_take, List.length_drop]
  omega
theorem dropXs_le (xs : List Int) (s k : Int) : (dropXs xs s k).length ≤ xs.length := by
  rw [dropXs]
  split
  · exact lessOne_le _ _
  · simp
theorem drop_no {xs : List Int} {s k : Int} (h : dropOk xs s k = false) : dropXs xs s k = [] ∧ dropSeats xs s k = 0 := by simp [dropXs, dropSeats, h]
theorem drop_yes {xs : List Int} {s k : Int} (h : dropOk xs s k = true) : dropXs xs s k = lessOne xs k.toNat ∧ dropSeats xs s k = s := by simp [dropXs, dropSeats, h]
/-- Where the list behind a place lies: at the list's own address where no room is left behind that place. -/
theorem tail_at {w : World} {b o n c k : Nat} {xs : List Int} (hc : ∀ j u, (nums xs)[j]? = some u → w.cell? ⟨b, o + j, none⟩ = some u) (hx : xs.length = n) (hn : n ≤ c) :
    ∃ d, (if c = k + 1 then some (⟨b, o, none⟩ : Addr) else some ⟨b, o + (k + 1), none⟩) = some ⟨b, d, none⟩ ∧ Hid (∀ j u, (nums (xs.drop (k + 1)))[j]? = some u → w.cell? ⟨b, d + j, none⟩ = some u) := by
  by_cases h : c = k + 1
  · refine ⟨o, by simp [h], fun j u hu => ?_⟩
    have h0 : xs.drop (k + 1) = [] := List.drop_eq_nil_of_le (by omega)
    rw [h0] at hu
    simp [nums] at hu
  · refine ⟨o + (k + 1), by simp [h], fun j u hu => ?_⟩
    have := hc (k + 1 + j) u (by simpa [nums, List.getElem?_map, List.getElem?_drop] using hu)
    rw [show o + (k + 1) + j = o + (k + 1 + j) by omega]
    exact this
theorem head_at {w : World} {b o k : Nat} {xs : List Int} (hb : b < w.heap.size) (hc : ∀ j u, (nums xs)[j]? = some u → w.cell? ⟨b, o + j, none⟩ = some u) : Holds w (some ⟨b, o, none⟩) (nums (xs.take k)) := by
  refine .inr ⟨b, o, rfl, hb, fun j u hu => hc j u ?_⟩
  simp only [nums, List.getElem?_map, List.getElem?_take] at hu ⊢
  split at hu
  · exact hu
  · simp at hu

set_option maxHeartbeats 1600000 in
set_option maxRecDepth 100000 in
theorem specDrop_no (A : Option Addr) (n c : Nat) (xs : List Int) (s k : Int) (w : World) (hA : Holds w A (nums xs)) (hx : xs.length = n) (hn : n ≤ 1048576) (hno : dropOk xs s k = false) :
    Calls Try.prog 50 #[.agg #[.slice A n c, .int .i64 s], .int .i64 k] w (PartyPost (dropXs xs s k) (dropSeats xs s k) (dropOk xs s k) w) := by
  have HX := Lib.hid hx
  have HS := Lib.hid hno
  have hA2 := (hA.alloc (.cells #[.slice A n c, .int .i64 s] 33)).alloc (.cells #[.slice none 0 0, .int .i64 0] 33)
  have h0 := (Whole.fresh w 33 #[.slice A n c, .int .i64 s]).alloc (.cells #[.slice none 0 0, .int .i64 0] 33)
  have h1 := Whole.fresh (w.alloc (.cells #[.slice A n c, .int .i64 s] 33)) 33 #[.slice none 0 0, .int .i64 0]
  rw [World.size_alloc] at h1
  have hwr : IntKind.i64.wrap ((n : Int) - 1) = (n : Int) - 1 := IntWalk.i64_in _ (by omega)
  have HNO : Hid (isParty xs s = true → within k 0 (n - 1) = true → (n : Int) = 1) := by
    intro ha hb
    have h := hno
    simp only [dropOk, ha, hx, hb, Bool.true_and, Bool.not_eq_false', decide_eq_true_eq] at h
    exact h
  clear hx hno
  cases hp : isParty xs s
  · have HP := Lib.hid hp
    clear hp
    go_enter Try.func50, Try.ntmps50
    go_wp2_with fail
    refine (paGood_any A n c xs s _ hA2 HX.out (by omega)).mono ?_
    rintro e w1 ⟨rfl, hb⟩
    rw [HP.out]
    have ht := below_then (below2 w _ _) hb (by simp; omega)
    have hr := h1.below hb
    have hlr := hr.lt
    obtain ⟨r0, r1, f0, f1⟩ := hr.two
    clear h0 h1 hb hA2
    go_wp2
    refine bodyPost_ret (v := .tuple #[.agg #[.slice none 0 0, .int .i64 0], .bool false]) (by simp [results, Try.results50, go_sem, r0, r1]) rfl ⟨none, 0, by rw [(drop_no HS.out).1, (drop_no HS.out).2, HS.out]; rfl, by rw [(drop_no HS.out).1]; exact .inl rfl, ?_⟩
    exact below_set (below_set ht (by omega)) (by omega)
  cases hw : within k 0 (n - 1)
  all_goals
    have HP := Lib.hid hp
    have HW := Lib.hid hw
    have HN1 : Hid (within k 0 (n - 1) = true → (n : Int) = 1) := fun h => HNO.out HP.out h
    clear hp hw HNO
    go_enter Try.func50, Try.ntmps50
    go_wp2_with fail
    refine (paGood_any A n c xs s _ hA2 HX.out (by omega)).mono ?_
    rintro e w1 ⟨rfl, hb⟩
    rw [HP.out]
    have ht := below_then (below2 w _ _) hb (by simp; omega)
    have hp1 := h0.below hb
    obtain ⟨k0, k1, -, -⟩ := hp1.two
    have hr := h1.below hb
    have hlr := hr.lt
    obtain ⟨r0, r1, f0, f1⟩ := hr.two
    clear h0 h1 hb hA2
    go_wp2_with fail
    refine (l1In_any _ _ _ _).mono ?_
    rintro e w' ⟨rfl, rfl⟩
    rw [HW.out]
    try have hn1 : n = 1 := by have := HN1.out HW.out; omega
    try subst hn1
    go_wp2
    refine bodyPost_ret (v := .tuple #[.agg #[.slice none 0 0, .int .i64 0], .bool false]) (by simp [results, Try.results50, go_sem, r0, r1]) rfl ⟨none, 0, by rw [(drop_no HS.out).1, (drop_no HS.out).2, HS.out]; rfl, by rw [(drop_no HS.out).1]; exact .inl rfl, ?_⟩
    exact below_set (below_set ht (by omega)) (by omega)

theorem dropOk_iff {xs : List Int} {s k : Int} : dropOk xs s k = true ↔ isParty xs s = true ∧ 0 ≤ k ∧ k < xs.length ∧ 2 ≤ xs.length := by
  simp only [dropOk, Bool.and_eq_true, Bool.not_eq_true', decide_eq_false_iff_not, within_iff]
  constructor
  · rintro ⟨h, h1, h2⟩
    exact ⟨h, by omega, by omega, by omega⟩
  · rintro ⟨h, h1, h2, h3⟩
    exact ⟨h, by omega, by omega⟩
end Go.Proofs.Ytionmcgaicijkaa
