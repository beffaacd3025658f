/-
  What is proved: the given statement on FnExactParseNight: at every argument of its kinds the law returns true and the arguments read as before. Conditions: none beyond the statement's own.
  Beside it, what it stands on:
  What is proved: three closed facts on the head of this seat's translation (how its program was cut), word by word. Conditions: none.
  What is proved: how a law's arguments, as they come in, are opened: a list of numbers, a party. Conditions: none beyond the reading itself.
  What is proved: how further arguments of a law, as they come in, are opened: a number, a list of lists of numbers. Conditions: none beyond the reading itself.
  What is proved: how a row that lists library variables is shown: the contract may use what they hold and the shape of the world. Conditions: as it says.
-/
import Derived.Test.YtedkanncdkofaaaDoorRows
import Derived.JoinedOf
import Derived.KernelRfl
import Derived.WalkKit
import Derived.ProofKit
import Derived.OpenShut
import Derived.ChangeOld
import Derived.Below
import Derived.Lib.SmallJoins
import Derived.Deep.Slices
import Derived.Deep.Grids
import Derived.Deep.Matrix
import Derived.Handed
import Derived.Lay
import Derived.Shelf.Vars
import Derived.Lib.LaidTab
import Derived.Stop.LaidErr
import Derived.Stop.Joined
import Derived.ChangeMaps5
import Derived.Test.YtedkanncdkofaaaDoorTie
import Derived.Test.YtedkanncdkofaaaDoorCards
import Derived.SevenTiedAt
import Derived.Test.YtedkanncdkofaaaDoorJ1ParseNight
set_option linter.unusedSimpArgs false
set_option linter.unusedVariables false
namespace Go.Proofs.YtedkanncdkofaaaDoor.enter
open Go

theorem skip (p r : List Char) (h : p.all (fun c => c.toNat != 32) = true) : wordsSigns (p ++ Char.ofNat 32 :: r) = p :: wordsSigns r := by
  induction p with
  | nil => rfl
  | cons c p ih =>
    simp only [List.all_cons, Bool.and_eq_true] at h
    have hc : c ≠ Char.ofNat 32 := by rintro rfl; simp at h
    rw [List.cons_append, wordsSigns, ih h.2]
    exact hc

def word0 : List Char := [Char.ofNat 104, Char.ofNat 97, Char.ofNat 114, Char.ofNat 110, Char.ofNat 101, Char.ofNat 115, Char.ofNat 115]
def word1 : List Char := [Char.ofNat 98, Char.ofNat 51, Char.ofNat 101, Char.ofNat 98, Char.ofNat 52, Char.ofNat 52, Char.ofNat 49, Char.ofNat 51, Char.ofNat 57, Char.ofNat 48, Char.ofNat 49, Char.ofNat 50, Char.ofNat 101, Char.ofNat 55, Char.ofNat 57, Char.ofNat 57, Char.ofNat 56, Char.ofNat 50, Char.ofNat 99, Char.ofNat 99, Char.ofNat 54, Char.ofNat 52, Char.ofNat 54, Char.ofNat 52, Char.ofNat 53, Char.ofNat 54, Char.ofNat 102, Char.ofNat 100, Char.ofNat 102, Char.ofNat 56, Char.ofNat 101, Char.ofNat 100, Char.ofNat 55, Char.ofNat 54, Char.ofNat 50, Char.ofNat 99, Char.ofNat 102, Char.ofNat 57, Char.ofNat 51, Char.ofNat 101, Char.ofNat 56, Char.ofNat 100, Char.ofNat 97, Char.ofNat 52, Char.ofNat 57, Char.ofNat 97, Char.ofNat 53, Char.ofNat 51, Char.ofNat 48, Char.ofNat 56, Char.ofNat 98, Char.ofNat 52, Char.ofNat 50, Char.ofNat 55, Char.ofNat 98, Char.ofNat 55, Char.ofNat 100, Char.ofNat 102, Char.ofNat 56, Char.ofNat 54, Char.ofNat 99, Char.ofNat 98, Char.ofNat 99, Char.ofNat 52]
def word2 : List Char := [Char.ofNat 99, Char.ofNat 117, Char.ofNat 116]
def tail0 : List Char := [Char.ofNat 97, Char.ofNat 116, Char.ofNat 32, Char.ofNat 108, Char.ofNat 111, Char.ofNat 111, Char.ofNat 112, Char.ofNat 46, Char.ofNat 101, Char.ofNat 120, Char.ofNat 97, Char.ofNat 109, Char.ofNat 112, Char.ofNat 108, Char.ofNat 101, Char.ofNat 47, Char.ofNat 103, Char.ofNat 48, Char.ofNat 49, Char.ofNat 50, Char.ofNat 55, Char.ofNat 50, Char.ofNat 47, Char.ofNat 108, Char.ofNat 97, Char.ofNat 119, Char.ofNat 115, Char.ofNat 46, Char.ofNat 70, Char.ofNat 110, Char.ofNat 69, Char.ofNat 120, Char.ofNat 97, Char.ofNat 99, Char.ofNat 116, Char.ofNat 80, Char.ofNat 97, Char.ofNat 114, Char.ofNat 116, Char.ofNat 121, Char.ofNat 84, Char.ofNat 101, Char.ofNat 120, Char.ofNat 116, Char.ofNat 32, Char.ofNat 108, Char.ofNat 111, Char.ofNat 111, Char.ofNat 112, Char.ofNat 46, Char.ofNat 101, Char.ofNat 120, Char.ofNat 97, Char.ofNat 109, Char.ofNat 112, Char.ofNat 108, Char.ofNat 101, Char.ofNat 47, Char.ofNat 103, Char.ofNat 48, Char.ofNat 49, Char.ofNat 50, Char.ofNat 55, Char.ofNat 50, Char.ofNat 47, Char.ofNat 108, Char.ofNat 97, Char.ofNat 119, Char.ofNat 115, Char.ofNat 46, Char.ofNat 70, Char.ofNat 110, Char.ofNat 69, Char.ofNat 120, Char.ofNat 97, Char.ofNat 99, Char.ofNat 116, Char.ofNat 80, Char.ofNat 97, Char.ofNat 114, Char.ofNat 115, Char.ofNat 101, Char.ofNat 80, Char.ofNat 97, Char.ofNat 114, Char.ofNat 116, Char.ofNat 121, Char.ofNat 32, Char.ofNat 108, Char.ofNat 111, Char.ofNat 111, Char.ofNat 112, Char.ofNat 46, Char.ofNat 101, Char.ofNat 120, Char.ofNat 97, Char.ofNat 109, Char.ofNat 112, Char.ofNat 108, Char.ofNat 101, Char.ofNat 47, Char.ofNat 103, Char.ofNat 48, Char.ofNat 49, Char.ofNat 50, Char.ofNat 55, Char.ofNat 50, Char.ofNat 47, Char.ofNat 108, Char.ofNat 97, Char.ofNat 119, Char.ofNat 115, Char.ofNat 46, Char.ofNat 70, Char.ofNat 110, Char.ofNat 69, Char.ofNat 120, Char.ofNat 97, Char.ofNat 99, Char.ofNat 116]
def tail1 : List Char := [Char.ofNat 75, Char.ofNat 101, Char.ofNat 101, Char.ofNat 112, Char.ofNat 84, Char.ofNat 101, Char.ofNat 120, Char.ofNat 116, Char.ofNat 32, Char.ofNat 108, Char.ofNat 111, Char.ofNat 111, Char.ofNat 112, Char.ofNat 46, Char.ofNat 101, Char.ofNat 120, Char.ofNat 97, Char.ofNat 109, Char.ofNat 112, Char.ofNat 108, Char.ofNat 101, Char.ofNat 47, Char.ofNat 103, Char.ofNat 48, Char.ofNat 49, Char.ofNat 50, Char.ofNat 55, Char.ofNat 50, Char.ofNat 47, Char.ofNat 108, Char.ofNat 97, Char.ofNat 119, Char.ofNat 115, Char.ofNat 46, Char.ofNat 70, Char.ofNat 110, Char.ofNat 69, Char.ofNat 120, Char.ofNat 97, Char.ofNat 99, Char.ofNat 116, Char.ofNat 80, Char.ofNat 97, Char.ofNat 114, Char.ofNat 115, Char.ofNat 101, Char.ofNat 75, Char.ofNat 101, Char.ofNat 101, Char.ofNat 112, Char.ofNat 32, Char.ofNat 108, Char.ofNat 111, Char.ofNat 111, Char.ofNat 112, Char.ofNat 46, Char.ofNat 101, Char.ofNat 120, Char.ofNat 97, Char.ofNat 109, Char.ofNat 112, Char.ofNat 108, Char.ofNat 101, Char.ofNat 47, Char.ofNat 103, Char.ofNat 48, Char.ofNat 49, Char.ofNat 50, Char.ofNat 55, Char.ofNat 50, Char.ofNat 47, Char.ofNat 108, Char.ofNat 97, Char.ofNat 119, Char.ofNat 115, Char.ofNat 46, Char.ofNat 70, Char.ofNat 110, Char.ofNat 69, Char.ofNat 120, Char.ofNat 97, Char.ofNat 99, Char.ofNat 116, Char.ofNat 67, Char.ofNat 114, Char.ofNat 101, Char.ofNat 119, Char.ofNat 84, Char.ofNat 101, Char.ofNat 120, Char.ofNat 116, Char.ofNat 32, Char.ofNat 108, Char.ofNat 111, Char.ofNat 111, Char.ofNat 112, Char.ofNat 46, Char.ofNat 101, Char.ofNat 120, Char.ofNat 97, Char.ofNat 109, Char.ofNat 112, Char.ofNat 108, Char.ofNat 101, Char.ofNat 47, Char.ofNat 103, Char.ofNat 48, Char.ofNat 49, Char.ofNat 50, Char.ofNat 55, Char.ofNat 50, Char.ofNat 47, Char.ofNat 108, Char.ofNat 97, Char.ofNat 119, Char.ofNat 115, Char.ofNat 46, Char.ofNat 70, Char.ofNat 110, Char.ofNat 69]
def tail2 : List Char := [Char.ofNat 120, Char.ofNat 97, Char.ofNat 99, Char.ofNat 116, Char.ofNat 80, Char.ofNat 97, Char.ofNat 114, Char.ofNat 115, Char.ofNat 101, Char.ofNat 67, Char.ofNat 114, Char.ofNat 101, Char.ofNat 119, Char.ofNat 32, Char.ofNat 108, Char.ofNat 111, Char.ofNat 111, Char.ofNat 112, Char.ofNat 46, Char.ofNat 101, Char.ofNat 120, Char.ofNat 97, Char.ofNat 109, Char.ofNat 112, Char.ofNat 108, Char.ofNat 101, Char.ofNat 47, Char.ofNat 103, Char.ofNat 48, Char.ofNat 49, Char.ofNat 50, Char.ofNat 55, Char.ofNat 50, Char.ofNat 47, Char.ofNat 108, Char.ofNat 97, Char.ofNat 119, Char.ofNat 115, Char.ofNat 46, Char.ofNat 70, Char.ofNat 110, Char.ofNat 69, Char.ofNat 120, Char.ofNat 97, Char.ofNat 99, Char.ofNat 116, Char.ofNat 78, Char.ofNat 105, Char.ofNat 103, Char.ofNat 104, Char.ofNat 116, Char.ofNat 84, Char.ofNat 101, Char.ofNat 120, Char.ofNat 116, Char.ofNat 32, Char.ofNat 108, Char.ofNat 111, Char.ofNat 111, Char.ofNat 112, Char.ofNat 46, Char.ofNat 101, Char.ofNat 120, Char.ofNat 97, Char.ofNat 109, Char.ofNat 112, Char.ofNat 108, Char.ofNat 101, Char.ofNat 47, Char.ofNat 103, Char.ofNat 48, Char.ofNat 49, Char.ofNat 50, Char.ofNat 55, Char.ofNat 50, Char.ofNat 47, Char.ofNat 108, Char.ofNat 97, Char.ofNat 119, Char.ofNat 115, Char.ofNat 46, Char.ofNat 70, Char.ofNat 110, Char.ofNat 69, Char.ofNat 120, Char.ofNat 97, Char.ofNat 99, Char.ofNat 116, Char.ofNat 80, Char.ofNat 97, Char.ofNat 114, Char.ofNat 115, Char.ofNat 101, Char.ofNat 78, Char.ofNat 105, Char.ofNat 103, Char.ofNat 104, Char.ofNat 116, Char.ofNat 32, Char.ofNat 108, Char.ofNat 111, Char.ofNat 111, Char.ofNat 112, Char.ofNat 46, Char.ofNat 101, Char.ofNat 120, Char.ofNat 97, Char.ofNat 109, Char.ofNat 112, Char.ofNat 108, Char.ofNat 101, Char.ofNat 47, Char.ofNat 103, Char.ofNat 48, Char.ofNat 49, Char.ofNat 50, Char.ofNat 55, Char.ofNat 50, Char.ofNat 47, Char.ofNat 108]
def tail3 : List Char := [Char.ofNat 97, Char.ofNat 119, Char.ofNat 115, Char.ofNat 46, Char.ofNat 70, Char.ofNat 110, Char.ofNat 69, Char.ofNat 120, Char.ofNat 97, Char.ofNat 99, Char.ofNat 116, Char.ofNat 80, Char.ofNat 117, Char.ofNat 122, Char.ofNat 122, Char.ofNat 108, Char.ofNat 101, Char.ofNat 84, Char.ofNat 101, Char.ofNat 120, Char.ofNat 116, Char.ofNat 32, Char.ofNat 108, Char.ofNat 111, Char.ofNat 111, Char.ofNat 112, Char.ofNat 46, Char.ofNat 101, Char.ofNat 120, Char.ofNat 97, Char.ofNat 109, Char.ofNat 112, Char.ofNat 108, Char.ofNat 101, Char.ofNat 47, Char.ofNat 103, Char.ofNat 48, Char.ofNat 49, Char.ofNat 50, Char.ofNat 55, Char.ofNat 50, Char.ofNat 47, Char.ofNat 108, Char.ofNat 97, Char.ofNat 119, Char.ofNat 115, Char.ofNat 46, Char.ofNat 70, Char.ofNat 110, Char.ofNat 69, Char.ofNat 120, Char.ofNat 97, Char.ofNat 99, Char.ofNat 116, Char.ofNat 80, Char.ofNat 97, Char.ofNat 114, Char.ofNat 115, Char.ofNat 101, Char.ofNat 80, Char.ofNat 117, Char.ofNat 122, Char.ofNat 122, Char.ofNat 108, Char.ofNat 101]
def tail : List Char := tail0 ++ (tail1 ++ (tail2 ++ (tail3)))

theorem whole : Tryd.prog.initOrder = String.ofList (word0 ++ Char.ofNat 32 :: (word1 ++ Char.ofNat 32 :: (word2 ++ Char.ofNat 32 :: tail))) := by kernel_rfl
theorem behind (ws : List (List Char)) : behindMainWord (word0 :: word1 :: word2 :: ws) = word2 :: ws := by kernel_rfl
theorem words : ∃ ws, behindMainWord (wordsSigns Tryd.prog.initOrder.toList) = word2 :: ws := by
  refine ⟨wordsSigns tail, ?_⟩
  rw [whole, String.toList_ofList, skip _ _ (by kernel_rfl), skip _ _ (by kernel_rfl), skip _ _ (by kernel_rfl), behind]

theorem lays : Tryd.prog.laysLater = false := by kernel_rfl
theorem reflects : Tryd.prog.bearsReflect = false := by kernel_rfl
theorem door : Tryd.prog.doorFits [] = true := by kernel_rfl
theorem strip (ws : List (List Char)) : stripLifts liftWords (word2 :: ws) = ([], word2 :: ws) := by kernel_rfl
theorem noGc : (word2 == "gc".toList) = false := by kernel_rfl
theorem noSpec : (word2 == "spec".toList) = false := by kernel_rfl
theorem noCarried : (word2 == "carried".toList) = false := by kernel_rfl

theorem mayEnter_of (P : Program) (ws : List (List Char)) (h : behindMainWord (wordsSigns P.initOrder.toList) = word2 :: ws) (h1 : P.laysLater = false) (h2 : P.bearsReflect = false) (h3 : P.doorFits [] = true) : P.mayEnter = true := by
  unfold Program.mayEnter
  rw [h]
  simp only [strip, noGc, noSpec, noCarried, h1, h2, h3]
  kernel_rfl
theorem headLifts_of (P : Program) (ws : List (List Char)) (h : behindMainWord (wordsSigns P.initOrder.toList) = word2 :: ws) : P.headLifts = [] := by
  unfold Program.headLifts
  rw [h]
  simp only [strip]
  kernel_rfl
theorem liftsFinal_of (P : Program) (ws : List (List Char)) (h : behindMainWord (wordsSigns P.initOrder.toList) = word2 :: ws) : P.liftsFinal = false := by
  unfold Program.liftsFinal
  rw [headLifts_of P ws h, h]
  kernel_rfl
theorem make_of (P : Program) (ws : List (List Char)) (h : behindMainWord (wordsSigns P.initOrder.toList) = word2 :: ws) : P.make = some .cut := by
  unfold Program.make
  rw [headLifts_of P ws h, h]
  kernel_rfl
theorem mayEnter : Tryd.prog.mayEnter = true := words.elim fun ws h => mayEnter_of _ ws h lays reflects door
theorem liftsFinal : Tryd.prog.liftsFinal = false := words.elim fun ws h => liftsFinal_of _ ws h
theorem make : Tryd.prog.make = some .cut := words.elim fun ws h => make_of _ ws h
theorem laid : laidOutB Tryd.prog = true := by kernel_rfl
theorem rowed : mapsRowed Tryd.prog = true := by kernel_rfl
theorem heard : Tryd.prog.stopsHeard = true := by kernel_rfl
theorem keys : Tryd.prog.plainKeys = true := by kernel_rfl
end Go.Proofs.YtedkanncdkofaaaDoor.enter

namespace Go.Proofs.YtedkanncdkofaaaDoor
open Go.ChangeShapes Go.WideShapes Go.ChangeAt Go.RowKit Go.Joins

theorem own : ownKnob Tryd.prog.godebug = none := by kernel_rfl
theorem laidOut : laidOutB Tryd.prog = true := by kernel_rfl
theorem cells_party : Tryd.prog.cellsOf 24 = 2 := by kernel_rfl

theorem holds_row {w : World} {x : Addr} {len : Nat} {zs : List Int} (hl : len ≤ zs.length) (hc : ∀ i, i < zs.length → w.cell? (x.add i) = some (.int .i64 (zs.getD i 0))) : Holds w (some x) (nums (zs.take len)) := by
  by_cases h0 : len = 0
  · subst h0; exact .inl rfl
  · obtain ⟨b, o, spot⟩ := x
    have hf := hc 0 (by omega)
    have hs : spot = none := by simpa [Addr.add] using World.cell?_spot hf
    subst hs
    refine .inr ⟨b, o, rfl, ?_, fun j u hu => ?_⟩
    · rcases Nat.lt_or_ge b w.heap.size with h | h
      · exact h
      · have : w.cell? ((⟨b, o, none⟩ : Addr).add 0) = none := by simp [World.cell?, Addr.add, Array.getElem?_eq_none h]
        rw [this] at hf; cases hf
    · have hj : j < len := by
        have h := List.getElem?_eq_some_iff.1 hu
        obtain ⟨h, -⟩ := h
        rw [nums_len, List.length_take] at h
        omega
      have h := hc j (by omega)
      rw [show (⟨b, o + j, none⟩ : Addr) = (⟨b, o, none⟩ : Addr).add j from by unfold Addr.add; split <;> simp_all, h]
      simp only [nums, List.getElem?_map, List.getElem?_take, hj, if_true] at hu
      rw [← hu, List.getD_eq_getElem?_getD, List.getElem?_eq_getElem (show j < zs.length by omega)]
      rfl

set_option maxRecDepth 100000 in
theorem open_nums {H : Type} {enc : TypeId × Value → H} {W : World} {n : Nat} {c : Value} {y : DataW H × List MemPlace} (h : DataW.trod enc Tryd.prog W 0 (fun _ => true) true n 22 [c] = some y) :
    ∃ (A : Option Addr) (len cap : Nat) (xs : List Int), c = .slice A len cap ∧ Holds W A (nums xs) ∧ xs.length = len ∧ len ≤ 9223372036854775807 := by
  rcases open_ints Tryd.underlying22 Tryd.underlying3 (by kernel_rfl) h with ⟨hcs, _⟩ | ⟨x, l, cp, zs, hcs, _, hl, hm, hz, _, hcell, _⟩
  · simp only [List.cons.injEq, and_true] at hcs
    exact ⟨none, 0, 0, [], hcs, .inl rfl, rfl, by omega⟩
  · simp only [List.cons.injEq, and_true] at hcs
    have hz' : zs.length = cp := by simpa using hz
    unfold maxLen at hm
    exact ⟨some x, l, cp, zs.take l, hcs, holds_row (by omega) hcell, by simp; omega, by omega⟩

set_option maxRecDepth 100000 in
theorem open_party {H : Type} {enc : TypeId × Value → H} {W : World} {base : Nat} {v : Value} {d : DataW H} {p : List MemPlace} (hv : Value.okWide Tryd.prog W .any base 24 v)
    (h : DataW.Trod enc Tryd.prog W 0 (fun _ => true) true 24 v d p) :
    ∃ (A : Option Addr) (n c : Nat) (xs : List Int) (s : Int), v = .agg #[.slice A n c, .int .i64 s] ∧ Holds W A (nums xs) ∧ xs.length = n ∧ n ≤ 9223372036854775807 := by
  obtain ⟨c0, c1, y0, y1, m, rfl, rfl, rfl, hy0, hy1⟩ := open_agg2 Tryd.underlying24 (by kernel_rfl) cells_party hv h
  obtain ⟨s, e1, -, -⟩ := DataW.trod_int Tryd.underlying3 hy1
  simp only [List.cons.injEq, and_true] at e1
  obtain ⟨A, n, c, xs, rfl, hA, hx, hn⟩ := open_nums hy0
  exact ⟨A, n, c, xs, s, by rw [e1], hA, hx, hn⟩

theorem holds_bits {w : World} {x : Addr} {len : Nat} {zs : List Bool} (hl : len ≤ zs.length) (hc : ∀ i, i < zs.length → w.cell? (x.add i) = some (.bool (zs.getD i false))) : Holds w (some x) (bits (zs.take len)) := by
  by_cases h0 : len = 0
  · subst h0; exact .inl rfl
  · obtain ⟨b, o, spot⟩ := x
    have hf := hc 0 (by omega)
    have hs : spot = none := by simpa [Addr.add] using World.cell?_spot hf
    subst hs
    refine .inr ⟨b, o, rfl, ?_, fun j u hu => ?_⟩
    · rcases Nat.lt_or_ge b w.heap.size with h | h
      · exact h
      · have : w.cell? ((⟨b, o, none⟩ : Addr).add 0) = none := by simp [World.cell?, Addr.add, Array.getElem?_eq_none h]
        rw [this] at hf; cases hf
    · have hj : j < len := by
        have h := List.getElem?_eq_some_iff.1 hu
        obtain ⟨h, -⟩ := h
        rw [bits_len, List.length_take] at h
        omega
      have h := hc j (by omega)
      rw [show (⟨b, o + j, none⟩ : Addr) = (⟨b, o, none⟩ : Addr).add j from by unfold Addr.add; split <;> simp_all, h]
      simp only [bits, List.getElem?_map, List.getElem?_take, hj, if_true] at hu
      rw [← hu, List.getD_eq_getElem?_getD, List.getElem?_eq_getElem (show j < zs.length by omega)]
      rfl

set_option maxRecDepth 100000 in
theorem open_bits {H : Type} {enc : TypeId × Value → H} {W : World} {n : Nat} {c : Value} {y : DataW H × List MemPlace} (h : DataW.trod enc Tryd.prog W 0 (fun _ => true) true n 48 [c] = some y) :
    ∃ (A : Option Addr) (len cap : Nat) (xs : List Bool), c = .slice A len cap ∧ Holds W A (bits xs) ∧ xs.length = len ∧ len ≤ 9223372036854775807 := by
  rcases Go.Deep.open_bools Tryd.underlying48 Tryd.underlying4 (by kernel_rfl) h with ⟨hcs, _⟩ | ⟨x, l, cp, f, hcs, _, hl, hm, _, hcell⟩
  · simp only [List.cons.injEq, and_true] at hcs
    exact ⟨none, 0, 0, [], hcs, .inl rfl, rfl, by omega⟩
  · simp only [List.cons.injEq, and_true] at hcs
    unfold maxLen at hm
    have hz' : ((List.range cp).map f).length = cp := by simp
    exact ⟨some x, l, cp, ((List.range cp).map f).take l, hcs, holds_bits (by omega) (fun i hi => by
      have hi' : i < cp := by omega
      rw [hcell i hi']
      simp [List.getD_eq_getElem?_getD, hi']), by simp; omega, by omega⟩

set_option maxRecDepth 100000 in
theorem open_list {H : Type} {enc : TypeId × Value → H} {W : World} {base : Nat} {v : Value} {d : DataW H} {p : List MemPlace} (hv : Value.okWide Tryd.prog W .any base 22 v)
    (h : DataW.Trod enc Tryd.prog W 0 (fun _ => true) true 22 v d p) :
    ∃ (A : Option Addr) (n c : Nat) (xs : List Int), v = .slice A n c ∧ Holds W A (nums xs) ∧ xs.length = n ∧ n ≤ 9223372036854775807 := by
  obtain ⟨a0, len, cap, rfl⟩ := okWide_slice Tryd.underlying22 hv
  obtain ⟨fuel, hf⟩ := h
  exact open_nums (by simpa [Value.cells] using hf)
end Go.Proofs.YtedkanncdkofaaaDoor

namespace Go.Proofs.YtedkanncdkofaaaDoor
open Go.ChangeShapes Go.WideShapes Go.ChangeAt Go.RowKit Go.Joins

set_option maxRecDepth 100000 in
theorem open_whole {H : Type} {enc : TypeId × Value → H} {W : World} {base : Nat} {v : Value} {d : DataW H} {p : List MemPlace} (hv : Value.okWide Tryd.prog W .any base 3 v)
    (h : DataW.Trod enc Tryd.prog W 0 (fun _ => true) true 3 v d p) : ∃ k : Int, v = .int .i64 k ∧ -9223372036854775808 ≤ k ∧ k ≤ 9223372036854775807 := by
  obtain ⟨n, rfl, -, -, hw⟩ := open_int Tryd.underlying3 hv h
  simp only [Lit.wf, Bool.and_eq_true, decide_eq_true_eq] at hw
  exact ⟨n, rfl, hw.1, hw.2⟩

theorem holds_fn {w : World} {x : Addr} {len cap : Nat} {f : Nat → Value} (hl : len ≤ cap) (hc : ∀ i, i < cap → w.cell? (x.add i) = some (f i)) : Holds w (some x) ((List.range len).map f) := by
  by_cases h0 : len = 0
  · subst h0; exact .inl rfl
  · obtain ⟨b, o, spot⟩ := x
    have hf := hc 0 (by omega)
    have hs : spot = none := by simpa [Addr.add] using World.cell?_spot hf
    subst hs
    refine .inr ⟨b, o, rfl, ?_, fun j u hu => ?_⟩
    · rcases Nat.lt_or_ge b w.heap.size with h | h
      · exact h
      · have : w.cell? ((⟨b, o, none⟩ : Addr).add 0) = none := by simp [World.cell?, Addr.add, Array.getElem?_eq_none h]
        rw [this] at hf; cases hf
    · have hj : j < len := by
        have h := List.getElem?_eq_some_iff.1 hu
        obtain ⟨h, -⟩ := h
        simpa using h
      have h := hc j (by omega)
      rw [show (⟨b, o + j, none⟩ : Addr) = (⟨b, o, none⟩ : Addr).add j from by unfold Addr.add; split <;> simp_all, h]
      simp only [List.getElem?_map, List.getElem?_range hj, Option.map_some] at hu
      exact hu

set_option maxRecDepth 100000 in
theorem open_grid {H : Type} {enc : TypeId × Value → H} {W : World} {base : Nat} {v : Value} {d : DataW H} {p : List MemPlace} (hv : Value.okWide Tryd.prog W .any base 36 v)
    (h : DataW.Trod enc Tryd.prog W 0 (fun _ => true) true 36 v d p) :
    ∃ (A : Option Addr) (n c : Nat) (rs : List RowV), v = .slice A n c ∧ Grid W A rs ∧ rs.length = n ∧ n ≤ 9223372036854775807 := by
  obtain ⟨a0, len0, cap0, rfl⟩ := okWide_slice Tryd.underlying36 hv
  obtain ⟨fuel, hf⟩ := h
  have hf' : DataW.trod enc Tryd.prog W 0 (fun _ => true) true fuel 36 [.slice a0 len0 cap0] = some (d, p) := by simpa [Value.cells] using hf
  rcases Go.Deep.open_int_rows Tryd.underlying36 Tryd.underlying22 Tryd.underlying3 (by kernel_rfl) (by kernel_rfl) hf' with ⟨hcs, _⟩ | ⟨a, len, cap, A, L, C, Z, hcs, _, hl, hm, _, hrow⟩
  · simp only [List.cons.injEq, and_true] at hcs
    exact ⟨none, 0, 0, [], hcs, ⟨.inl rfl, fun r hr => by cases hr⟩, rfl, by omega⟩
  · simp only [List.cons.injEq, and_true] at hcs
    unfold maxLen at hm
    refine ⟨some a, len, cap, (List.range len).map fun r => ⟨A r, L r, C r, (Z r).take (L r)⟩, hcs, ⟨?_, fun r hr => ?_⟩, by simp, by omega⟩
    · have h1 := holds_fn (f := fun r => Value.slice (A r) (L r) (C r)) hl (fun i hi => (hrow i hi).1)
      simpa [rowVals, RowV.val, Function.comp_def] using h1
    · simp only [List.mem_map, List.mem_range] at hr
      obtain ⟨j, hj, rfl⟩ := hr
      obtain ⟨-, hLC, hCm, hZ, -, hnone, hsome⟩ := hrow j (by omega)
      unfold maxLen at hCm
      refine ⟨?_, by simp; omega, by show L j ≤ _; omega⟩
      show Holds W (A j) (nums ((Z j).take (L j)))
      cases hA : A j with
      | none =>
        have h0 := hnone hA
        have : Z j = [] := List.eq_nil_of_length_eq_zero (by omega)
        rw [this]
        exact .inl (by simp [nums])
      | some a' => exact holds_row (by omega) (fun i hi => (hsome a' hA).2 i (by omega))
end Go.Proofs.YtedkanncdkofaaaDoor

namespace Go.Proofs.YtedkanncdkofaaaDoor
open Go.ChangeShapes Go.WideShapes Go.ChangeAt Go.RowKit

theorem returns_laid {H : Type} {enc : TypeId × Value → H} {a : Assume} {C : Checked} {os : Os} {f : FuncId} {fn : Func} {s : ChangeSpec} {conds : List PathCond} {apart fresh handsOn again : Bool} {laid : List (String × DataW Unit)}
    (own : ownKnob C.prog.godebug = none) (started : os.Started) (noInit : C.prog.inits.idxOf? f = none) (hfn : C.prog.funcs[f]? = some fn)
    (witness : ∃ (w : World) (tape : Tape) (i : Input), w.os = os ∧ (w.forCall tape i).Shaped C.prog ∧ i.vars = [] ∧ Input.okWide C.prog (w.forCall tape i) .any w.heap.size f i ∧
      ((s.pre enc C.prog fn conds apart (w.forCall tape i).memory i.args ∧ laidMetH C.prog laid (w.forCall tape i).memory) ∧ sizedMet enc C.prog fn (OpenSpec.ofChange s) apart (w.forCall tape i).memory i.args) ∧ a.holds C.prog (lone (Frame.enter C.prog f i.args .normal) [] (w.forCall tape i)))
    (contract : ∀ (W : World) (base : Nat) (args : Array Value) (ds gs : List (DataW H)) (before : List MemPlace),
      (∀ (j : Nat) t v, fn.params[j]? = some t → args[j]? = some v → Value.okWide C.prog W .any base t v) →
      DataW.Whole enc C.prog fn.params.toList s.vars apart W args.toList ds gs before →
      laidMetH C.prog laid W → W.ShapedOpen C.prog →
      Calls C.prog f args W fun e W' => ∃ v, e = .returned v ∧ s.post enc C.prog fn apart fresh handsOn again W args v W') :
    ReturnsInHanded a C os f .any (fun w args => (s.pre enc C.prog fn conds apart w args ∧ laidMetH C.prog laid w) ∧ sizedMet enc C.prog fn (OpenSpec.ofChange s) apart w args) (s.post enc C.prog fn apart fresh handsOn again) := by
  refine returnsInHanded_of_calls own started noInit witness ?_
  intro w tape i _ hsh _ hok hpre _
  obtain ⟨_, _, _, fn', hfn', _, _, _, _, hval⟩ := hok
  have e : fn' = fn := Option.some.inj (hfn'.symm.trans hfn)
  subst e
  obtain ⟨⟨⟨ds, gs, before, hw, _⟩, hx⟩, _⟩ := hpre
  have hw' := DataW.Whole.of_heap (w' := w.forCall tape i) (by rfl) hw
  have hxx : laidMetH C.prog laid (w.forCall tape i).memory := hx
  refine (contract (w.forCall tape i) w.heap.size i.args ds gs before hval hw' (hxx.of_heap (by rfl)) hsh).mono fun e W' ⟨v, he, hp⟩ => ?_
  subst he
  exact ChangeSpec.post_blind hp

theorem star_name : "*" ++ "errors.errorString" = "*errors.errorString" := by decide
theorem row_err (u : TypeId) (h : Tryd.prog.typeName? 3 u = some "*errors.errorString") : u = 199 :=
  typeName_ptr_named (nm := "errors.errorString") (by rw [star_name]; kernel_rfl) (by kernel_rfl) (by decide) u (by rw [star_name]; exact h)
/-- What a list of library variables gives that has the powers of ten third, the two errors fifth and sixth. -/
theorem lay_of {l0 l1 l3 : String × DataW Unit} {r : List (String × DataW Unit)} {t1 t2 : List UInt8} {W : World}
    (hL : laidMet Tryd.prog (l0 :: l1 :: ("internal/strconv.uint64pow10", Lib.tabData .u64 Lib.pow10Tab) :: l3 :: ("strconv.ErrRange", .iface "*errors.errorString" (.ptr (.agg [.lit (.string t1)]))) :: ("strconv.ErrSyntax", .iface "*errors.errorString" (.ptr (.agg [.lit (.string t2)]))) :: r) W)
    (hsh : W.ShapedOpen Tryd.prog) : LibLay W := by
  have hT : Tab W := Lib.tabIs_of_head (t := 185) (e := 161) (n := 20) tab_named (by kernel_rfl) Tryd.underlying185 Tryd.underlying161 (by kernel_rfl) (by kernel_rfl) hL.tail.tail
  obtain ⟨a0, s0, hv0, -, -, -⟩ := laid_sentinel hL.tail.tail.tail.tail ran_named (ti := 137) (by kernel_rfl) Tryd.underlying137 row_err Tryd.underlying199 Tryd.underlying201 rfl rfl Tryd.underlying9 (by kernel_rfl) (by kernel_rfl)
  obtain ⟨a1, s1, hv1, -, -, -⟩ := laid_sentinel hL.tail.tail.tail.tail.tail syn_named (ti := 137) (by kernel_rfl) Tryd.underlying137 row_err Tryd.underlying199 Tryd.underlying201 rfl rfl Tryd.underlying9 (by kernel_rfl) (by kernel_rfl)
  obtain ⟨m, hm⟩ := cell_of_shapedOpen_int (P := Tryd.prog) (g := 0) (t := 3) (zero := #[.int .i64 0]) hsh (of_decide_eq_true (by kernel_rfl)) (by kernel_rfl) rfl (by kernel_rfl) (by kernel_rfl) Tryd.underlying3
  exact ⟨hT, ⟨_, _, hv1⟩, ⟨_, _, hv0⟩, m, hm⟩
end Go.Proofs.YtedkanncdkofaaaDoor

namespace Go.Proofs.YtedkanncdkofaaaDoor.parseNight
open Go.ChangeShapes Go.WideShapes Go.ChangeAt Go.RowKit Go.Joins

set_option maxRecDepth 100000 in
theorem lifted (os : Os) (started : os.Started) (H : Type) (enc : TypeId × Value → H) :
    ReturnsInHanded {} Tryd.checked os 10 .any (fun w args => (Rows.fnExactParseNightSpec.pre enc Tryd.prog Tryd.f10 [] false w args ∧ laidMetH Tryd.prog Rows.fnExactParseNightRow.laid w) ∧ sizedMet enc Tryd.prog Tryd.f10 (OpenSpec.ofChange Rows.fnExactParseNightSpec) false w args)
      (Rows.fnExactParseNightSpec.post enc Tryd.prog Tryd.f10 false true false false) := by
  refine returns_laid (C := Tryd.checked) (laid := Rows.fnExactParseNightRow.laid) own started (by kernel_rfl) Tryd.func10
    (ChangeSpec.witness_shaped (enc := enc) (C := Tryd.checked) (os := os) (X := fun w _ => laidMetH Tryd.prog Rows.fnExactParseNightRow.laid w) false (World.laidAll Tryd.prog os Rows.fnExactParseNightRow.laid) #[.string ⟨#[]⟩] 8 (World.laidAll_os _ _ _)
      (World.shaped_of_ZipB (by kernel_rfl) (by kernel_rfl)) (by kernel_rfl) (by kernel_rfl) (by kernel_rfl)
      (by rw [MakeChecks.laidMetH_plain _ _ _ (by kernel_rfl)]; exact laidMet_laidAll _ (by kernel_rfl) (by kernel_rfl))) ?_
  intro W base args ds gs before hval0 hW hL hsh
  rw [MakeChecks.laidMetH_plain _ _ _ (by kernel_rfl)] at hL
  have hT : LibLay W := lay_of hL hsh
  have hval : ∀ (j : Nat) t v, Tryd.f10.params[j]? = some t → args[j]? = some v → Value.okWide Tryd.prog W .any base t v := hval0
  have hW' := hW
  obtain ⟨p, q, hA0, hV, rfl, hfz, hnd⟩ := hW
  have hA : DataW.TrodAll enc Tryd.prog W 0 (fun _ => true) true Tryd.f10.params.toList args.toList ds p := hA0
  rw [Tryd.params10] at hA hval
  obtain ⟨v0, vs0, d0, ds0, p0, q0, hargs, rfl, rfl, h0, r0⟩ := trodAll_cons hA
  obtain ⟨rfl, rfl, rfl⟩ := trodAll_nil r0
  obtain rfl : args = #[v0] := by cases args; simp_all
  obtain ⟨rfl, rfl⟩ := trodVars_none hV
  have lt0 : ∀ x ∈ p0, x.block < W.heap.size := by obtain ⟨m, hm⟩ := h0; exact DataW.trod_lt m _ _ _ hm
  obtain ⟨b0, hv0, hd0, hp0, hsz0⟩ := Go.ChangeMaps.open_string Tryd.underlying9 (hval 0 9 v0 rfl rfl) h0
  obtain ⟨l0, hl0⟩ : ∃ l, b0 = strOf l := ⟨b0.data.toList, by simp⟩
  subst hl0
  subst hv0
  clear hA0 hval0
  refine (lawParseNight_all l0 W  hT).mono fun e W' ⟨he, bel⟩ => ?_
  subst he
  exact ⟨_, rfl, _, _, _, [], _, [], hW', trodAll_mk1 (shut_bool Tryd.underlying4 _), (trodAll_cons_mk (Below.trod laidOut (by kernel_rfl) (of_decide_eq_true (by kernel_rfl)) h0 bel lt0) trodAll_mk0), rfl, bel.frame _, fun h => by cases h⟩

set_option maxHeartbeats 8000000 in
theorem facts : joinedFacts Tryd.prog 10 Tryd.f10 Rows.fnExactParseNightSpec Rows.fnExactParseNightRow = true := by
  unfold joinedFacts
  rw [enter.laid, enter.rowed, enter.heard, enter.keys, enter.mayEnter, enter.liftsFinal, enter.make]
  simp only [Bool.and_eq_true]
  repeat' apply And.intro
  all_goals (first | exact True.intro | (as_aux_lemma => kernel_rfl))

theorem named_ : Tryd.prog.funcNamed Rows.fnExactParseNightRow.func = some 10 := by kernel_rfl
theorem instance_ : Tryd.f10.isInstance Tryd.prog Rows.fnExactParseNightRow.origin Rows.fnExactParseNightRow.targs := of_decide_eq_true (by kernel_rfl)
theorem wrapper_ : Tryd.f10.isWrapper Tryd.prog Rows.fnExactParseNightRow.wrapper Rows.fnExactParseNightRow.mainSum := by
  unfold Func.isWrapper; first | (rw [if_pos (by decide +kernel)]; kernel_rfl) | (rw [if_neg (by decide +kernel)]; exact ⟨rfl, rfl⟩)

theorem row_proved : Rows.FnExactParseNightSaid :=
  OpenClaim.holds_of_wide 10 Tryd.f10 rfl rfl rfl rfl rfl rfl rfl ⟨rfl, rfl, rfl, rfl, rfl⟩ rfl rfl rfl rfl rfl named_ Tryd.func10 facts
    instance_ wrapper_ (fun os started H enc _ => lifted os started H enc)
theorem proved : Rows.FnExactParseNightCardSaid :=
  Claim7.holds_tied_plain_at .later [] [.data, .data, .data, .data, .sentinel, .sentinel, .pinned] true Rows.fnExactParseNightCard.stood.harness true row_proved (fun _ h => by cases h) (by kernel_rfl) (fun _ h => by cases h) fnExactParseNight_row_tie rfl ⟨rfl, rfl⟩ (by kernel_rfl) rfl
    (fun f fn hf hfn => by
      obtain rfl : f = 10 := Option.some.inj (named_.symm.trans hf) |>.symm
      obtain rfl : fn = Tryd.f10 := (Option.some.inj (Tryd.func10.symm.trans hfn)).symm
      exact ⟨by kernel_rfl, fun j t ht => by
        rw [Tryd.params10] at ht
        have hm : t ∈ [9] := by simpa using Array.mem_of_getElem? ht
        have hall : ([9].all fun u => !Tryd.prog.wantsStandIn u) = true := by kernel_rfl
        exact (show Tryd.prog.wantsStandIn t = false by simpa using List.all_eq_true.1 hall t hm)⟩)
    (by kernel_rfl)
#print axioms proved
end Go.Proofs.YtedkanncdkofaaaDoor.parseNight
