/-
  What is proved: the contract of trips made one after the other by the model, with the place of the state behind them. Conditions: the arguments are read as they lie; there is somebody.
-/
import Derived.Test.YtionmcgaicijkaaPaPlay
namespace Go.Proofs.Ytionmcgaicijkaa
open Go.RowKit

/-- The places lie in block b0, an old one, or in a new one, but none of the call's own first three. -/
def Beside (B b0 : Nat) (w : World) (A : Option Addr) (xs : List Value) : Prop := b0 < B ∧ ∃ b o, A = some ⟨b, o, none⟩ ∧ b < w.heap.size ∧ (b = b0 ∨ B + 1 + 1 + 1 ≤ b) ∧ ∀ j u, xs[j]? = some u → w.cell? ⟨b, o + j, none⟩ = some u
theorem Beside.holds {B b0 : Nat} {w : World} {A : Option Addr} {xs : List Value} (h : Beside B b0 w A xs) : Holds w A xs := by
  obtain ⟨-, b, o, hA, hb, -, hc⟩ := h
  exact .inr ⟨b, o, hA, hb, hc⟩
theorem Beside.below {B b0 : Nat} {w w' : World} {A : Option Addr} {xs : List Value} (h : Beside B b0 w A xs) (hb : Below w.heap.size w w') : Beside B b0 w' A xs := by
  obtain ⟨h0, b, o, hA, hl, hd, hc⟩ := h
  exact ⟨h0, b, o, hA, Nat.lt_of_lt_of_le hl hb.size, hd, fun j u hu => (hb.cell (p := ⟨b, o + j, none⟩) hl).trans (hc j u hu)⟩
theorem Beside.set {B b0 g i : Nat} {w : World} {A : Option Addr} {xs : List Value} (h : Beside B b0 w A xs) (hg : B ≤ g ∧ g ≤ B + 1 + 1) (v : Value) : Beside B b0 (w.setCell ⟨g, i, none⟩ v) A xs := by
  obtain ⟨h0, b, o, hA, hl, hd, hc⟩ := h
  refine ⟨h0, b, o, hA, by simpa [World.setCell] using hl, hd, fun j u hu => ?_⟩
  have h1 := hc j u hu
  have h2 := Below.heap_setCell w ⟨g, i, none⟩ v b (by show b ≠ g; omega)
  simp only [World.cell?] at h1 ⊢
  rw [h2]
  exact h1
/-- A list that lies in block b0, or in a block from B on. -/
def OldOrNew (B b0 : Nat) (w : World) (A : Option Addr) (xs : List Value) : Prop := ∃ b o, A = some ⟨b, o, none⟩ ∧ b < w.heap.size ∧ (b = b0 ∨ B ≤ b) ∧ ∀ j u, xs[j]? = some u → w.cell? ⟨b, o + j, none⟩ = some u
theorem Beside.oldOrNew {B b0 : Nat} {w : World} {A : Option Addr} {xs : List Value} (h : Beside B b0 w A xs) : OldOrNew B b0 w A xs := by
  obtain ⟨-, b, o, hA, hl, hd, hc⟩ := h
  exact ⟨b, o, hA, hl, by omega, hc⟩
theorem OldOrNew.holds {B b0 : Nat} {w : World} {A : Option Addr} {xs : List Value} (h : OldOrNew B b0 w A xs) : Holds w A xs := by
  obtain ⟨b, o, hA, hb, -, hc⟩ := h
  exact .inr ⟨b, o, hA, hb, hc⟩
theorem OldOrNew.alloc {B b0 : Nat} {w : World} {A : Option Addr} {xs : List Value} (h : OldOrNew B b0 w A xs) (x : Obj) : OldOrNew B b0 (w.alloc x) A xs := by
  obtain ⟨b, o, hA, hb, hd, hc⟩ := h
  exact ⟨b, o, hA, by simp; omega, hd, fun j u hu => (World.cell?_alloc_lt w x ⟨b, o + j, none⟩ hb).trans (hc j u hu)⟩
theorem OldOrNew.set {B b0 g i : Nat} {w : World} {A : Option Addr} {xs : List Value} (h : OldOrNew B b0 w A xs) (hg : g < B) (hg0 : g ≠ b0) (v : Value) : OldOrNew B b0 (w.setCell ⟨g, i, none⟩ v) A xs := by
  obtain ⟨b, o, hA, hl, hd, hc⟩ := h
  refine ⟨b, o, hA, by simpa [World.setCell] using hl, hd, fun j u hu => ?_⟩
  have h1 := hc j u hu
  have h2 := Below.heap_setCell w ⟨g, i, none⟩ v b (by show b ≠ g; omega)
  simp only [World.cell?] at h1 ⊢
  rw [h2]
  exact h1
/-- What paPlay hands back. -/
def PlayAt (b0 : Nat) (n : Nat) (s : Int) (bs : List Bool) (t : Bool) (ls : List (List Int)) (m : Nat) (w : World) (e : Ending) (w' : World) : Prop :=
  ∃ (A : Option Addr) (c : Nat), e = .returned (.tuple #[.agg #[.slice A m c, .bool (ended n s bs t ls).2], .int .i64 (made n s bs t ls)]) ∧ OldOrNew w.heap.size b0 w' A (bits (ended n s bs t ls).1) ∧ Below w.heap.size w w'

set_option maxHeartbeats 3200000 in
theorem paPlay_at (P D : Option Addr) (b0 o0 n c m d q z : Nat) (bs : List Bool) (rs : List RowV) (s : Int) (t : Bool) (w : World) (hbl : b0 < w.heap.size) (hcell : ∀ j u, (bits bs)[j]? = some u → w.cell? ⟨b0, o0 + j, none⟩ = some u) (hD : Grid w D rs) (hy : bs.length = m) (hz : rs.length = q) (hst : m = n) (hm0 : 0 < m) (hm : m ≤ 1048576) (hq : q ≤ 9223372036854775807) :
    Calls Try.prog 67 #[.agg #[.slice P n c, .int .i64 s],   .agg #[.slice (some ⟨b0, o0, none⟩) m d, .bool t], .slice D q z] w (PlayAt b0 n s bs t (rowNums rs) m w) := by
  have hA0 : Beside w.heap.size b0 (((w.alloc (.cells #[.slice P n c, .int .i64 s] 33)).alloc (.cells #[.slice (some ⟨b0, o0, none⟩) m d, .bool t] 30)).alloc (.cells #[.slice none 0 0, .bool false] 30)) (some ⟨b0, o0, none⟩) (bits bs) :=
    Beside.below ⟨hbl, b0, o0, rfl, hbl, .inl rfl, hcell⟩ (below3 w _ _ _)
  have gp := ((Whole.fresh w 33 #[.slice P n c, .int .i64 s]).alloc (.cells #[.slice (some ⟨b0, o0, none⟩) m d, .bool t] 30)).alloc (.cells #[.slice none 0 0, .bool false] 30)
  have gs := (Whole.fresh (w.alloc (.cells #[.slice P n c, .int .i64 s] 33)) 30 #[.slice (some ⟨b0, o0, none⟩) m d, .bool t]).alloc (.cells #[.slice none 0 0, .bool false] 30)
  have gr := Whole.fresh ((w.alloc (.cells #[.slice P n c, .int .i64 s] 33)).alloc (.cells #[.slice (some ⟨b0, o0, none⟩) m d, .bool t] 30)) 30 #[.slice none 0 0, .bool false]
  have hb := below3 w (.cells #[.slice P n c, .int .i64 s] 33) (.cells #[.slice (some ⟨b0, o0, none⟩) m d, .bool t] 30) (.cells #[.slice none 0 0, .bool false] 30)
  simp only [World.size_alloc] at gs gr
  have HA0 := Lib.hid hA0
  have GP := Lib.hid gp
  have GS := Lib.hid gs
  have GR := Lib.hid gr
  have HBW := Lib.hid hb
  have HY := Lib.hid hy
  have HZ := Lib.hid hz
  have HST := Lib.hid hst
  have HLS := Lib.hid (rowNums_len rs)
  clear hA0 gp gs gr hb hy hz hst hcell
  go_enter Try.func67, Try.ntmps67
  go_wp2
  go_loopw [12] (fun i wr => ∃ (k : Nat) (A : Option Addr) (e : Nat), k ≤ q ∧ i = .int .i64 k ∧ Whole wr w.heap.size 33 #[.slice P n c, .int .i64 s] ∧ Whole wr (w.heap.size + 1) 30 #[.slice A m e, .bool (after bs t ((rowNums rs).take k)).2] ∧ Whole wr (w.heap.size + 1 + 1) 30 #[.slice none 0 0, .bool false] ∧ Beside w.heap.size b0 wr A (bits (after bs t ((rowNums rs).take k)).1) ∧ Below w.heap.size w wr ∧ MadeTo n s bs t (rowNums rs) k) (fun i _ => q - (intOf i).toNat)
  case atStart => exact ⟨0, _, d, Nat.zero_le _, rfl, GP.out, GS.out, GR.out, HA0.out, HBW.out, MadeTo.start _ _ _ _ _⟩
  case round =>
    clear GP GS GR HA0 HBW
    obtain ⟨k, A, e, hk, rfl, gp, gs, gr, hA, hb, hmade⟩ := hrel
    obtain ⟨p0, p1, -, -⟩ := gp.two
    obtain ⟨s0, s1, x0, x1⟩ := gs.two
    obtain ⟨r0, r1, y0, y1⟩ := gr.two
    have hgl := gr.lt
    have HM := Lib.hid hmade
    have HAL := Lib.hid (after_len ((rowNums rs).take k) bs t)
    clear hmade
    by_cases hlt : k < q
    · have hkr : k < rs.length := by have := HZ.out; omega
      have hkl : k < (rowNums rs).length := by have := HLS.out; omega
      obtain ⟨b1, o1, rfl, hbl1, hc, hok⟩ := (hD.below hb).look hkr
      have HGET := Lib.hid (rowNums_get hkr)
      cases hcan : canGo n s (after bs t ((rowNums rs).take k)).1 (after bs t ((rowNums rs).take k)).2 rs[k].xs
      · have HC := Lib.hid hcan
        have HEND := Lib.hid (HM.out.stop hkl (by rw [HGET.out]; exact HC.out))
        clear hcan
        go_wp2_with fail
        refine (paCan_any P A _ n c m e _ _ _ _ s _ _ hA.holds hok.1 (by rw [HAL.out, HY.out]) hok.2.1 HST.out (by have := HST.out; omega) hok.2.2).mono ?_
        rintro e1 w1 ⟨rfl, hb1⟩
        rw [HC.out]
        have hbb := below_then hb hb1 hb.size
        have hA1 := hA.below hb1
        obtain ⟨t0, t1, z0, z1⟩ := (gs.below hb1).two
        obtain ⟨q0, q1, v0, v1⟩ := (gr.below hb1).two
        clear hb hb1 hA gp gs gr p0 p1 s0 s1 r0 r1 x0 x1 y0 y1
        go_wp2
        refine bodyPost_ret (v := .tuple #[.agg #[.slice A m e, .bool (after bs t ((rowNums rs).take k)).2], .int .i64 k]) (by simp [results, Try.results67, go_sem, q0, q1]) rfl ⟨A, e, by rw [ended, HEND.out], ?_, below_set (below_set hbb (by omega)) (by omega)⟩
        rw [ended, HEND.out]
        exact ((hA1.set (by omega) _).set (by omega) _).oldOrNew
      · have HC := Lib.hid hcan
        have hst := can_steps hcan
        have HSTEP : Hid (StepsTo rs[k].xs ((m : Int) - 1) rs[k].xs.length) := by rw [HST.out]; exact hst
        have HNX := Lib.hid (HM.out.next hkl (by rw [HGET.out]; exact HC.out))
        have haf : after bs t ((rowNums rs).take (k + 1)) = (flipped (after bs t ((rowNums rs).take k)).1 rs[k].xs, !(after bs t ((rowNums rs).take k)).2) := by
          rw [List.take_succ_eq_append_getElem hkl, after_snoc, HGET.out]
        have HAF := Lib.hid haf
        clear hcan hst haf
        go_wp2_with fail
        refine (paCan_any P A _ n c m e _ _ _ _ s _ _ hA.holds hok.1 (by rw [HAL.out, HY.out]) hok.2.1 HST.out (by have := HST.out; omega) hok.2.2).mono ?_
        rintro e1 w1 ⟨rfl, hb1⟩
        rw [HC.out]
        have hbb := below_then hb hb1 hb.size
        replace hA := hA.below hb1
        replace gp := gp.below hb1
        replace gs := gs.below hb1
        replace gr := gr.below hb1
        have hok1 := hok.below hb1
        clear hb hb1 hok p0 p1 s0 s1 r0 r1 x0 x1 y0 y1
        obtain ⟨s0, s1, x0, x1⟩ := gs.two
        have hl1 := gr.lt
        obtain ⟨hq0, b2, o2, rfl, hbl2, hd2, hcells⟩ := hA
        go_wp2_with fail
        refine (paCross_any b2 o2 m e _ _ _ _ _ _ _ hcells (by rw [HAL.out, HY.out]) hm0 hm hok1.1 hok1.2.1 hok1.2.2 HSTEP.out).mono ?_
        rintro e1 w2 ⟨A2, e2, rfl, hf, hb2⟩
        have hlen : (flipped (after bs t ((rowNums rs).take k)).1 rs[k].xs).length = m := by rw [flipped_len, HAL.out, HY.out]
        rw [hlen]
        have hpos : 0 < (bits (flipped (after bs t ((rowNums rs).take k)).1 rs[k].xs)).length := by rw [bits_len, hlen]; exact hm0
        have hbc := below_then hbb hb2 hbb.size
        replace gp := gp.below hb2
        replace gs := gs.below hb2
        replace gr := gr.below hb2
        have hA3 : Beside w.heap.size b0 w2 A2 (bits (flipped (after bs t ((rowNums rs).take k)).1 rs[k].xs)) := by
          rcases hf with h0 | ⟨g, cs, rfl, h1, h2, hw, h3, h4⟩
          · rw [h0] at hpos; simp at hpos
          · obtain ⟨bq, oq, hAq, hbq, hcq⟩ := (show Fresh w2 w1.heap.size w2.heap.size 4 (some ⟨g, 0, none⟩) _ from .inr ⟨g, cs, rfl, h1, h2, hw, h3, h4⟩).holds.spot hpos
            simp only [Option.some.injEq, Addr.mk.injEq] at hAq
            obtain ⟨rfl, rfl, -⟩ := hAq
            exact ⟨hq0, g, 0, rfl, hbq, .inr (by omega), hcq⟩
        have HA3 := Lib.hid hA3
        have GP := Lib.hid gp
        have GS := Lib.hid gs
        have GR := Lib.hid gr
        clear s0 s1 x0 x1 hf hA3 gp gr hlen hpos
        obtain ⟨s0, s1, x0, x1⟩ := gs.two
        clear gs
        go_wp2
        go_roundw
        case rel => exact ⟨k + 1, A2, e2, by omega, by go_num, (GP.out.off (by omega)).off (by omega), by rw [HAF.out]; exact (GS.out.set_ 0 _).set_ 1 _, (GR.out.off (by omega)).off (by omega), by rw [HAF.out]; exact (HA3.out.set (by omega) _).set (by omega) _, below_set (below_set hbc (by omega)) (by omega), HNX.out⟩
        case measure => simp [intOf]; omega
    · have hkq : k = q := by omega
      subst hkq
      have HEND := Lib.hid (HM.out.done (by have := HLS.out; have := HZ.out; omega))
      clear gp gs gr p0 p1
      go_wp2
      refine bodyPost_ret (v := .tuple #[.agg #[.slice A m e, .bool (after bs t ((rowNums rs).take k)).2], .int .i64 k]) (by simp [results, Try.results67, go_sem, r0, r1]) rfl ⟨A, e, by rw [ended, HEND.out], ?_, below_set (below_set hb (by omega)) (by omega)⟩
      rw [ended, HEND.out]
      exact ((hA.set (by omega) _).set (by omega) _).oldOrNew
end Go.Proofs.Ytionmcgaicijkaa
