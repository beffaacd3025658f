/-
  What is proved: a byte written to a strings.Builder leaves all blocks below a bound as they were, the builder's own aside. Conditions: the builder's bytes lie from that bound on; fewer than 2^47 bytes.
-/
import Derived.Test.YtgcobhnodjfgiaaBuilder
import Derived.Test.YtgcobhnodjfgiaaSorted
namespace Go.Proofs.Ytgcobhnodjfgiaa
open Go.RowKit

/-- A builder in block b whose bytes lie from C on. -/
def BuiltIn (b C : Nat) (bs : List Value) (w : World) : Prop :=
  b < C ∧ ∃ p v, (p = .pointer none ∨ p = .pointer (some ⟨b, 0, none⟩)) ∧ w.heap[b]? = some (.cells #[p, v] 91 (0, 0)) ∧ w.ownsRow C 5 1 v bs.length bs
theorem BuiltIn.built {b C : Nat} {bs : List Value} {w : World} (h : BuiltIn b C bs w) : Built b b bs w := by
  obtain ⟨hb, p, v, hp, hh, ho⟩ := h
  have hne : v.ownBlock ≠ some b := fun e => absurd (ho.lt b e).1 (by omega)
  rcases hp with rfl | rfl
  · exact .inl ⟨Nat.le_refl _, v, hh, own_lower ho (by omega), hne⟩
  · exact .inr ⟨Nat.le_refl _, v, hh, own_lower ho (by omega), hne⟩
/-- Below C nothing but block b has changed. -/
def Far (b C : Nat) (w w' : World) : Prop := ∀ k, k ≠ b → k < C → w'.heap[k]? = w.heap[k]?
theorem Far.refl (b C : Nat) (w : World) : Far b C w w := fun _ _ _ => rfl
theorem Far.trans {b C : Nat} {w w' w'' : World} (h : Far b C w w') (h2 : Far b C w' w'') : Far b C w w'' := fun k h1 hC => (h2 k h1 hC).trans (h k h1 hC)
theorem Far.cell {b C : Nat} {w w' : World} (h : Far b C w w') {p : Addr} (hp : p.block ≠ b) (hC : p.block < C) : w'.cell? p = w.cell? p := World.cell?_of_block (h p.block hp hC)

set_option maxHeartbeats 800000 in
theorem copyCheckK (b C : Nat) (bs : List Value) (w : World) (h : BuiltIn b C bs w) :
    Calls Try.prog 96 #[.pointer (some ⟨b, 0, none⟩)] w fun e w' => e = .returned (.tuple #[]) ∧ (∃ v, w'.heap[b]? = some (.cells #[.pointer (some ⟨b, 0, none⟩), v] 91 (0, 0)) ∧ w'.ownsRow C 5 1 v bs.length bs) ∧ Far b C w w' ∧ Below b w w' := by
  have hbt := h.built
  obtain ⟨hb, p, v, hp, hh, ho⟩ := h
  have hne : v.ownBlock ≠ some b := fun e => absurd (ho.lt b e).1 (by omega)
  rcases hp with rfl | rfl
  · have hat : Lib.BuilderAt 91 5 b b (.pointer none) bs w := ⟨Nat.le_refl _, v, hh, own_lower ho (by omega), hne⟩
    refine (copyCheck_fresh b w hat.cell0 hat.shape hat.frozen0).mono ?_
    rintro e w' ⟨rfl, rfl⟩
    refine ⟨rfl, ⟨v, ?_, ?_⟩, fun k hk _ => Below.heap_setCell _ _ _ _ hk, (Below.refl b w).setCell (p := ⟨b, 0, none⟩) (Nat.le_refl _) _⟩
    · simp [World.setCell, Array.getElem?_modify, hh]
    · exact ho.kept (row := some b) ⟨rfl, rfl, rfl, by simp [World.setCell], fun k _ hk => Below.heap_setCell _ _ _ _ (fun e => hk (by simp [e]))⟩ (Or.inr hne)
  · have hat : Lib.BuilderAt 91 5 b b (.pointer (some ⟨b, 0, none⟩)) bs w := ⟨Nat.le_refl _, v, hh, own_lower ho (by omega), hne⟩
    refine (copyCheck_used b w hat.cell0).mono ?_
    rintro e w' ⟨rfl, rfl⟩
    exact ⟨rfl, ⟨v, hh, ho⟩, Far.refl _ _ _, Below.refl _ _⟩

set_option maxHeartbeats 2000000 in
set_option maxRecDepth 100000 in
theorem writeByteK (b C : Nat) (bs : List Value) (c : Int) (w : World) (h : BuiltIn b C bs w) (hlen : bs.length + 1 ≤ 140737488355328) (hCw : C ≤ w.heap.size) :
    Calls Try.prog 72 #[.pointer (some ⟨b, 0, none⟩), .int .u8 c] w fun e w' => e = .returned .nilIface ∧ BuiltIn b C (bs ++ [.int .u8 c]) w' ∧ Far b C w w' ∧ Below b w w' := by
  obtain ⟨i0, hi, hz0, hz1, hz2⟩ := info_parts info_byte
  have HI := Lib.hid hi
  have HZ0 := Lib.hid hz0
  have HZ1 := Lib.hid hz1
  have HZ2 := Lib.hid hz2
  have hbC := h.1
  clear hi hz0 hz1 hz2
  go_enter Try.func72, Try.ntmps72
  go_wp2_with fail
  refine (copyCheckK b C bs _ h).mono ?_
  rintro e w1 ⟨rfl, ⟨v, hbk, hown⟩, hf1, hb1⟩
  have hne : v.ownBlock ≠ some b := fun e => absurd (hown.lt b e).1 (by omega)
  have hbl := hb1.size
  have hlt : b < w1.heap.size := by omega
  have c0 : w1.cell? ⟨b, 0, none⟩ = some (.pointer (some ⟨b, 0, none⟩)) := by rw [Lib.cell_of_heap hbk]; rfl
  have c1 : w1.cell? ⟨b, 1, none⟩ = some v := by rw [Lib.cell_of_heap hbk]; rfl
  have HOWN := Lib.hid (hown.alloc (.cells #[.int .u8 c] 5))
  have HNEW := Lib.hid (cells_fresh w1 5 #[.int .u8 c])
  have HONE : Hid (∀ u ∈ [Value.int .u8 c], u.oneCell' = true) := fun u hu => by simp at hu; subst hu; rfl
  have HBK := Lib.hid hbk
  have HBB := Lib.hid (hb1.alloc (Nat.le_of_lt hlt) (.cells #[.int .u8 c] 5))
  have HF1 := Lib.hid hf1
  clear hbk hown hb1 hf1
  go_wp2_with (at_builtin; refine wpList_append_own _ rfl (.tmp 11) (.tmp 13) 89 rfl C 5 i0 (.int .u8 0) 1 1 Try.underlying89 HI.out HZ0.out HZ1.out HZ2.out rfl (by decide) v bs.length bs rfl HOWN.out ⟨w1.heap.size, 0, none⟩ 1 1 [.int .u8 c] rfl rfl HNEW.out HONE.out (by unfold maxLen; omega) (by omega) (by simp; omega) ?_; intro v' w2 hown' hgrow _; obtain ⟨g, cap, hv2⟩ := own_slice hown'; subst hv2; have hb2 : w2.heap[b]? = some (.cells #[.pointer (some ⟨b, 0, none⟩), v] 91 (0, 0)) := (by rw [hgrow.block b (by simp; omega) (fun e => hne e.symm), Lib.alloc_old w1 _ b hlt]; exact HBK.out); have d0 : w2.cell? ⟨b, 0, none⟩ = some (.pointer (some ⟨b, 0, none⟩)) := (by rw [Lib.cell_of_heap hb2]; rfl); have d1 : w2.cell? ⟨b, 1, none⟩ = some v := (by rw [Lib.cell_of_heap hb2]; rfl); have d2 : w2.frozen? ⟨b, 1, none⟩ = false := Lib.frozen_of_heap hb2 1; have HB2 := Lib.hid hb2; clear hb2)
  have hne2 : (Value.slice (some ⟨g, 0, none⟩) (bs.length + 1) cap).ownBlock ≠ some b := fun e => absurd (hown'.lt b e).1 (by omega)
  have hput : BuiltIn b C (bs ++ [.int .u8 c]) (w2.setCell ⟨b, 1, none⟩ (.slice (some ⟨g, 0, none⟩) (bs.length + 1) cap)) := by
    refine ⟨hbC, .pointer (some ⟨b, 0, none⟩), .slice (some ⟨g, 0, none⟩) (bs.length + 1) cap, .inr rfl, ?_, ?_⟩
    · simp [World.setCell, Array.getElem?_modify, HB2.out]
    · have h := hown'.kept (row := some b) (w' := w2.setCell ⟨b, 1, none⟩ (.slice (some ⟨g, 0, none⟩) (bs.length + 1) cap)) ⟨rfl, rfl, rfl, by simp [World.setCell], fun k _ hk => Below.heap_setCell _ _ _ _ (fun e => hk (by simp [e]))⟩ (Or.inr hne2)
      simpa using h
  have HP := Lib.hid hput
  have hbe := (HBB.out.grown hgrow (by simp; omega) (fun k hk => by have := (HOWN.out.lt k hk).1; omega)).setCell (p := ⟨b, 1, none⟩) (Nat.le_refl b) (.slice (some ⟨g, 0, none⟩) (bs.length + 1) cap)
  have HE := Lib.hid hbe
  have HFE : Hid (Far b C w (w2.setCell ⟨b, 1, none⟩ (.slice (some ⟨g, 0, none⟩) (bs.length + 1) cap))) := fun k hk hC => by
    have hk1 : k < w1.heap.size := by omega
    have e1 : (w2.setCell ⟨b, 1, none⟩ (.slice (some ⟨g, 0, none⟩) (bs.length + 1) cap)).heap[k]? = w2.heap[k]? := Below.heap_setCell _ _ _ _ hk
    have e2 := hgrow.block k (by simp; omega) (fun e => absurd (HOWN.out.lt k e.symm).1 (by omega))
    rw [Lib.alloc_old w1 _ k hk1] at e2
    exact e1.trans (e2.trans (HF1.out k hk hC))
  clear hput hbe hown' hgrow
  go_wp2
  go_ret
  exact ⟨rfl, HP.out, HFE.out, HE.out⟩
end Go.Proofs.Ytgcobhnodjfgiaa
