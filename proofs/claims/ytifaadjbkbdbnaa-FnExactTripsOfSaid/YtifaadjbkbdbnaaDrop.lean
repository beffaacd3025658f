/-
  What is proved: contracts of a party without one person, as the model makes it; append onto a list of the call's own inside a region that draws. Conditions: the party's times are read as they lie.
-/
import Derived.Test.YtifaadjbkbdbnaaOwn
import Derived.Test.YtifaadjbkbdbnaaSlow
import Derived.Test.YtifaadjbkbdbnaaMid
import Derived.Deep.RegionHeld3
import Derived.Deep.DeepCutAuto
namespace Go.Proofs.Ytifaadjbkbdbnaa
open Go.RowKit

/-- append onto a list of the call's own, as a step of a region that draws its order; nothing may be appended too. -/
theorem step_append_mine {P : Program} {ops : Array Oper} {o : Oper} {a : Act} {w : World} {K : Act → World → Prop} {Q : Exit → Act → World → Prop} {E : Prop}
    (hg : o.guard = none) (s x : Operand) (t : TypeId) (hop : o.op = Op.call { callee := Callee.builtin Builtin.append, args := #[s, x], argTypes := #[t, t] })
    (base : Nat) (e : TypeId) (i : TypeInfo) (z : Value) (size bytes : Nat) (h1 : P.underlying t = some (.slice e)) (h2 : P.info? e = some i) (h3 : i.zero = some z) (h4 : i.size = size) (h5 : i.bytes = bytes) (h6 : z.cells.size = size) (h7 : 0 < size)
    (v : Value) (n : Nat) (xs : List Value) (hs : a.eval s = v) (hown : w.ownsRow base e size v n xs)
    (ad : Addr) (m c : Nat) (news : List Value) (hx : a.eval x = .slice (some ad) m c) (hn : news.length = m * size) (hc : ∀ j u, news[j]? = some u → w.cell? (ad.add j) = some u) (h1c : ∀ u ∈ news, u.oneCell' = true)
    (b1 : n + m ≤ maxLen) (b2 : (n + m) * bytes ≤ 140737488355328) (b3 : base ≤ w.heap.size)
    (hK : ∀ v' w', w'.ownsRow base e size v' (n + m) (xs ++ news) → w.grownBy w' v.ownBlock → K (a.put o.dst v') w') :
    if Region.wanted o (yielded ops a.tmps) = true then Oper.wp P o a w K Q else E := by
  have hw : Region.wanted o (yielded ops a.tmps) = true := by simp [Region.wanted, hg]
  rw [if_pos hw]
  obtain ⟨v', w', hrun, r1, r2, _⟩ := run_append_own (P := P) w base t o.type e i z size bytes h1 h2 h3 h4 h5 h6 h7 v n xs hown ad m c news hn hc h1c b1 b2 b3
  unfold Oper.wp
  simp [execOp, hop, resolve, invoke, builtin, hs, hx, hrun, Result.andThen]
  exact hK v' w' r1 r2

/-- Whether there is a party without that person. -/
def dropOk (xs : List Int) (s k : Int) : Bool := isParty xs s && (within k 0 (xs.length - 1) && !decide ((xs.length : Int) = 1))
/-- The times without that person's. -/
def lessOne (xs : List Int) (k : Nat) : List Int := xs.take k ++ xs.drop (k + 1)
def dropXs (xs : List Int) (s k : Int) : List Int := if dropOk xs s k then lessOne xs k.toNat else []
def dropSeats (xs : List Int) (s k : Int) : Int := if dropOk xs s k then s else 0
theorem lessOne_le (xs : List Int) (k : Nat) : (lessOne xs k).length ≤ xs.length := by
  simp only [lessOne, List.length_append, List.length_take, List.length_drop]
  omega
theorem dropXs_le (xs : List Int) (s k : Int) : (dropXs xs s k).length ≤ xs.length := by
  rw [dropXs]
  split
  · exact lessOne_le _ _
  · simp
theorem drop_no {xs : List Int} {s k : Int} (h : dropOk xs s k = false) : dropXs xs s k = [] ∧ dropSeats xs s k = 0 := by simp [dropXs, dropSeats, h]
theorem drop_yes {xs : List Int} {s k : Int} (h : dropOk xs s k = true) : dropXs xs s k = lessOne xs k.toNat ∧ dropSeats xs s k = s := by simp [dropXs, dropSeats, h]
/-- Where the list behind a place lies: at the list's own address where no room is left behind that place. -/
theorem tail_at {w : World} {b o n c k : Nat} {xs : List Int} (hc : ∀ j u, (nums xs)[j]? = some u → w.cell? ⟨b, o + j, none⟩ = some u) (hx : xs.length = n) (hn : n ≤ c) :
    ∃ d, (if c = k + 1 then some (⟨b, o, none⟩ : Addr) else some ⟨b, o + (k + 1), none⟩) = some ⟨b, d, none⟩ ∧ Hid (∀ j u, (nums (xs.drop (k + 1)))[j]? = some u → w.cell? ⟨b, d + j, none⟩ = some u) := by
  by_cases h : c = k + 1
  · refine ⟨o, by simp [h], fun j u hu => ?_⟩
    have h0 : xs.drop (k + 1) = [] := List.drop_eq_nil_of_le (by omega)
    rw [h0] at hu
    simp [nums] at hu
  · refine ⟨o + (k + 1), by simp [h], fun j u hu => ?_⟩
    have := hc (k + 1 + j) u (by simpa [nums, List.getElem?_map, List.getElem?_drop] using hu)
    rw [show o + (k + 1) + j = o + (k + 1 + j) by omega]
    exact this
theorem head_at {w : World} {b o k : Nat} {xs : List Int} (hb : b < w.heap.size) (hc : ∀ j u, (nums xs)[j]? = some u → w.cell? ⟨b, o + j, none⟩ = some u) : Holds w (some ⟨b, o, none⟩) (nums (xs.take k)) := by
  refine .inr ⟨b, o, rfl, hb, fun j u hu => hc j u ?_⟩
  simp only [nums, List.getElem?_map, List.getElem?_take] at hu ⊢
  split at hu
  · exact hu
  · simp at hu

theorem dropOk_iff {xs : List Int} {s k : Int} : dropOk xs s k = true ↔ isParty xs s = true ∧ 0 ≤ k ∧ k < xs.length ∧ 2 ≤ xs.length := by
  simp only [dropOk, Bool.and_eq_true, Bool.not_eq_true', decide_eq_false_iff_not, within_iff]
  constructor
  · rintro ⟨h, h1, h2⟩
    exact ⟨h, by omega, by omega, by omega⟩
  · rintro ⟨h, h1, h2, h3⟩
    exact ⟨h, by omega, by omega⟩
end Go.Proofs.Ytifaadjbkbdbnaa
