/-
  What is proved: contracts of the program's state of a place and of its FirstState. Conditions: the party's times are read as they lie; at most eight people.
-/
import Derived.Test.YtkdjdnknhbmliaaFirst
import Derived.Deep.RegionHeld3
namespace Go.Proofs.Ytkdjdnknhbmliaa
open Go.RowKit

/-- What a call hands back that makes a state. -/
def StateRes (bs : List Bool) (t : Bool) (w : World) (e : Ending) (w' : World) : Prop :=
  ∃ (A : Option Addr) (c : Nat), e = .returned (.agg #[.slice A bs.length c, .bool t]) ∧ Fresh w' w.heap.size w'.heap.size 4 A (bits bs) ∧ Below w.heap.size w w'

theorem Fresh.set_out {w : World} {lo hi b o : Nat} {ty : TypeId} {A : Option Addr} {xs : List Value} {u : Value} (hf : Fresh w lo hi ty A xs) (hb : b < lo ∨ hi ≤ b) : Fresh (w.setCell ⟨b, o, none⟩ u) lo hi ty A xs := by
  rcases hf with rfl | ⟨g, cs, hA, h1, h2, hw, h3, h4⟩
  · exact .inl rfl
  · exact .inr ⟨g, cs, hA, h1, h2, hw.off (by omega), h3, h4⟩

theorem elem_eight (W : World) : (sizeOf (Try.prog.elem 86)).run Try.prog W = .ok 1 W := by kernel_rfl
theorem len_eight : Try.prog.arrayLen 86 = 8 := by kernel_rfl
theorem arr_eight : Try.prog.underlying 86 = some (.array (Try.prog.arrayLen 86) (Try.prog.elem 86)) := by kernel_rfl
theorem slice_eight (W : World) (g n : Nat) (h : n ≤ 8) : (Instr.sliceAt 86 (.pointer (some ⟨g, 0, none⟩)) none (some (.int .i64 (n : Int))) none).run Try.prog W = .ok (.slice (some ⟨g, 0, none⟩) n 8) W := by
  rw [run_sliceAt_array_h W 86 _ arr_eight .i64 (n : Int) (by omega) (by rw [len_eight]; omega), elem_eight]
  simp [slicedAt, len_eight, Result.andThen, Addr.add]

set_option maxHeartbeats 800000 in
set_option maxRecDepth 100000 in
theorem placeState_any (bs : List Bool) (t : Bool) (n : Nat) (w : World) (hy : bs.length = n) (hn : n ≤ 8) :
    Calls Try.prog 76 #[.agg (placeCells bs t), .int .i64 n] w (StateRes bs t w) := by
  subst hy
  have hp := (Whole.fresh w 90 (placeCells bs t)).alloc (.cells #[.slice none 0 0, .bool false] 33)
  have hr := Whole.fresh (w.alloc (.cells (placeCells bs t) 90)) 33 #[.slice none 0 0, .bool false]
  rw [World.size_alloc] at hr
  have hb2 := below2 w (.cells (placeCells bs t) 90) (.cells #[.slice none 0 0, .bool false] 33)
  have ht8 := (hp.cell 8).trans (show (placeCells bs t)[8]? = some (.bool t) from rfl)
  have hB : ∀ j u, (bits bs)[j]? = some u → ((w.alloc (.cells (placeCells bs t) 90)).alloc (.cells #[.slice none 0 0, .bool false] 33)).cell? ⟨w.heap.size, 0 + j, none⟩ = some u := fun j u hu => by
    have hj : j < bs.length := by have := (List.getElem?_eq_some_iff.1 hu).1; rwa [bits_len] at this
    rw [Nat.zero_add, hp.cell j, place_at bs t (by omega), ← hu]
    simp [bits, hj]
  have HB := Lib.hid hB
  clear hB
  have hsl := fun W : World => slice_eight W w.heap.size bs.length hn
  go_enter Try.func76, Try.ntmps76
  go_wp2
  go_region_held3 (fun w' => w'.cell? ⟨w.heap.size, 8, none⟩ = some (.bool t)) (go_keep)
    (first | (go_at_call 122; refine (cloneB_any w.heap.size 0 bs.length 8 bs _ (by exact HB.out) rfl (by omega)).mono ?_; rintro e w1 ⟨A, c, rfl, hf, hb⟩; have k8 := ((hp.drew.below hb).cell 8).trans (show (placeCells bs t)[8]? = some (.bool t) from rfl); obtain ⟨r0, r1, f0, f1⟩ := (hr.drew.below hb).two))
  have hlw : w.heap.size + 1 + 1 ≤ w1.heap.size := by have := hb.size; simpa using this
  have HF := Lib.hid ((hf.set_out (b := w.heap.size + 1) (o := 0) (u := .slice A bs.length c) (.inl (by simp))).set_out (b := w.heap.size + 1) (o := 1) (u := .bool t) (.inl (by simp)))
  have HBW := Lib.hid (below_then hb2.drew hb (by simp; omega))
  clear hf hb
  go_wp2
  refine bodyPost_ret (v := .agg #[.slice A bs.length c, .bool t]) (by simp [results, Try.results76, go_sem, r0, r1]) rfl ⟨A, c, rfl, ?_, ?_⟩
  · have h := HF.out.more (lo' := w.heap.size) (hi' := w1.heap.size) (by simp; omega) (Nat.le_refl _)
    simpa [World.setCell] using h
  · exact below_set (below_set HBW.out (by omega)) (by omega)

theorem falses_get (n i : Nat) : (falses n).getD i false = false := by
  simp only [falses, List.getD_eq_getElem?_getD, List.getElem?_replicate]
  split <;> rfl
theorem place_falses (n : Nat) : placeCells (falses n) false = placeCells [] false := by
  simp only [placeCells, falses_get]
  rfl

theorem placeState_none (n : Nat) (w : World) (hn : n ≤ 8) :
    Calls Try.prog 76 #[.agg #[.bool false, .bool false, .bool false, .bool false, .bool false, .bool false, .bool false, .bool false, .bool false], .int .i64 n] w (StateRes (falses n) false w) := by
  have h := placeState_any (falses n) false n w (falses_len n) hn
  rw [place_falses] at h
  exact h

end Go.Proofs.Ytkdjdnknhbmliaa
