/-
  What is proved: contracts of slices.Backward at lists of crowds. Conditions: the list is read as crowds lie in it, in blocks that were there.
-/
import Derived.RangeFuncNested
import Derived.RangeFuncBox
import Derived.RangeFuncBound
import Derived.RangeFuncCalls
import Derived.RangeFuncLeaves
import Derived.Shelf.Abstract
import Derived.Shelf.RegionOpen
import Derived.WalkKit
import Derived.OwnWalkIn
import Derived.TacticsInMore
import Derived.LoopNIn
import Derived.LoopIn
import Derived.Test.YtionmcgaicijkaaList
import Derived.Test.YtionmcgaicijkaaSum
namespace Go.Proofs.Ytionmcgaicijkaa
open Go.RowKit Go.Shelf

attribute [local go_sem] Oper.semAt_some

/-- What has come when k rounds are over. -/
def comeUp {α : Type} (f : Nat → α) (k : Nat) : List α := (List.range k).map f
theorem comeUp_succ {α : Type} (f : Nat → α) (k : Nat) : comeUp f (k + 1) = comeUp f k ++ [f k] := by simp [comeUp, List.range_succ]
theorem comeUp_len {α : Type} (f : Nat → α) (k : Nat) : (comeUp f k).length = k := by simp [comeUp]
/-- A trip of a plan: strictly rising, of at most eight people. -/
abbrev Trip := { l : List Int // StepsTo l 7 l.length }
def noTrip : Trip := ⟨[], fun j h => by simp at h⟩
def tripVals (ts : List Trip) : List (List Int) := ts.map (·.1)
theorem trips_of : ∀ {ls : List (List Int)}, (∀ l ∈ ls, StepsTo l 7 l.length) → ∃ ts : List Trip, tripVals ts = ls
  | [], _ => ⟨[], rfl⟩
  | l :: ls, h => by
    obtain ⟨ts, hts⟩ := trips_of (ls := ls) fun x hx => h x (List.mem_cons_of_mem _ hx)
    exact ⟨⟨l, h l (by simp)⟩ :: ts, by simp [tripVals] at hts ⊢; exact hts⟩
theorem tripVals_at {ts : List Trip} {k : Nat} (h : k < ts.length) : (tripVals ts)[k]'(by simpa [tripVals] using h) = ts[k].1 := by simp [tripVals]
/-- What a round keeps: what lay below n₀, and the box that the iterator reads. -/
def KeepB (n₀ Bs : Nat) (W W' : World) : Prop := Below n₀ W W' ∧ W'.heap[Bs]? = W.heap[Bs]?
theorem KeepB.refl (n₀ Bs : Nat) (W : World) : KeepB n₀ Bs W W := ⟨Below.refl _ _, rfl⟩
theorem KeepB.trans {n₀ Bs : Nat} {X Y Z : World} (h : KeepB n₀ Bs X Y) (k : KeepB n₀ Bs Y Z) : KeepB n₀ Bs X Z := ⟨h.1.trans k.1, k.2.trans h.2⟩
/-- The k-th of a list from behind, and its place. -/
def behind (ls : List Trip) (k : Nat) : Nat × Trip := (ls.length - 1 - k, (ls[ls.length - 1 - k]?).getD noTrip)

set_option maxRecDepth 100000 in
set_option maxHeartbeats 2000000 in
theorem back1_in (F : Fence) (n : Nat) (hf : F.fn 107) (hro : F.round = none) (hn : 1 ≤ n) (l Bs n₀ b off len cap : Nat) (ls : List Trip) (hlen : ls.length = len) (h40 : len ≤ 40) (hb : b < n₀) (J Jx : List (Nat × Trip) → World → Prop)
    (hY : ∀ pre x W, J pre W → pre.length < len → YieldAt F (n - 1) Try.prog l #[.int .i64 (x.1 : Int), .agg (crowdCells x.2.1)] W fun e W' =>
      (e = .returned (.bool true) ∧ J (pre ++ [x]) W' ∧ KeepB n₀ Bs W W') ∨ (e = .returned (.bool false) ∧ Jx (pre ++ [x]) W'))
    (W : World) (hBs : W.cell? ⟨Bs, 0, none⟩ = some (.slice (some ⟨b, off, none⟩) len cap)) (hc : ∀ j u, (crowdsOf (tripVals ls))[j]? = some u → W.cell? ⟨b, off + j, none⟩ = some u) (h0 : J [] W) :
    CallsIn F n Try.prog 107 #[.func (.yield l) #[] #[], .pointer (some ⟨Bs, 0, none⟩)] W fun e W' => (∃ v, e = .returned v) ∧
      ((∃ ys, ys = comeUp (behind ls) len ∧ J ys W') ∨ (∃ pre, (∃ k, k ≤ len ∧ pre = comeUp (behind ls) k) ∧ Jx pre W')) := by
  have hwq : IntKind.i64.wrap ((len : Int) - 1) = (len : Int) - 1 := IntWalk.i64_in _ (by omega)
  refine callsIn_of_wp Try.func107 rfl hf ?_ hro
  simp only [Try.ntmps107, List.size_toArray, List.length_cons, List.length_nil, Nat.reduceAdd, Nat.reduceSub, Array.replicate_succ, Array.replicate_zero, List.push_toArray, List.append_toArray, List.nil_append, List.cons_append]
  gi_wp2
  gi_loopw [3] (fun i wr => ∃ y : Int, -1 ≤ y ∧ y < len ∧ i = .int .i64 y ∧ J (comeUp (behind ls) ((len : Int) - 1 - y).toNat) wr ∧ KeepB n₀ Bs W wr)
    (fun i _ => (intOf i + 1).toNat)
  case atStart => exact ⟨(len : Int) - 1, by omega, by omega, rfl, by rw [show ((len : Int) - 1 - ((len : Int) - 1)).toNat = 0 by omega]; exact h0, KeepB.refl _ _ _⟩
  case round =>
    obtain ⟨y, hy0, hyl, rfl, hJs, hnx⟩ := hrel
    have hbx := (World.cell?_of_block (a := ⟨Bs, 0, none⟩) hnx.2).trans hBs
    by_cases hy : 0 ≤ y
    · obtain ⟨k, rfl⟩ := Int.eq_ofNat_of_zero_le hy
      have hkl : k < ls.length := by omega
      have hc2 : ∀ j u, (crowdsOf (tripVals ls))[j]? = some u → wr.cell? ⟨b, off + j, none⟩ = some u := fun j u hu => (hnx.1.cell (p := ⟨b, off + j, none⟩) hb).trans (hc j u hu)
      obtain ⟨m0, m1, m2, m3, m4, m5, m6, m7⟩ := crowd_row hc2 (k := k) (by simpa [tripVals] using hkl)
      rw [tripVals_at hkl] at m0 m1 m2 m3 m4 m5 m6 m7
      obtain ⟨fn, tmps, assign, body, hyy, hR⟩ := hY _ (k, ls[k]) wr hJs (by rw [comeUp_len]; omega)
      have hnext : comeUp (behind ls) ((len : Int) - 1 - (k : Int)).toNat ++ [(k, ls[k])] = comeUp (behind ls) (((len : Int) - 1 - (k : Int)).toNat + 1) := by
        rw [comeUp_succ, behind, show ls.length - 1 - ((len : Int) - 1 - (k : Int)).toNat = k by omega]
        simp [hkl]
      have HNX := Lib.hid hnext
      have hwk : IntKind.i64.wrap ((k : Int) - 1) = (k : Int) - 1 := IntWalk.i64_in _ (by omega)
      have hk0 : (0 : Int) ≤ k := by omega
      have hkL : (k : Int) < len := by omega
      have hkn : k < len := by omega
      dsimp only [crowdCells] at hyy
      clear hnext hJs hc hc2
      gi_wp2
      refine hR.mono ?_
      rintro e W3 (⟨rfl, hJ3, hk3⟩ | ⟨rfl, hJx3⟩)
      · gi_wp2
        go_roundw
        case rel => exact ⟨(k : Int) - 1, by omega, by omega, by go_num, by rw [show ((len : Int) - 1 - ((k : Int) - 1)).toNat = ((len : Int) - 1 - (k : Int)).toNat + 1 by omega, ← HNX.out]; exact hJ3, hnx.trans hk3⟩
        case measure => simp [intOf]
      · gi_wp2
        refine bodyPost_ret (results_none rfl _ _ _) rfl ?_
        exact ⟨⟨_, rfl⟩, .inr ⟨_, ⟨((len : Int) - 1 - (k : Int)).toNat + 1, by omega, HNX.out⟩, hJx3⟩⟩
    · obtain rfl : y = -1 := by omega
      rw [show ((len : Int) - 1 - (-1 : Int)).toNat = len by omega] at hJs
      gi_wp2
      go_end0
      exact ⟨⟨_, rfl⟩, .inl hJs⟩

set_option maxRecDepth 100000 in
set_option maxHeartbeats 1000000 in
theorem back1_nil_in (F : Fence) (n : Nat) (hf : F.fn 107) (hro : F.round = none) (l Bs : Nat) (J : List (Nat × Trip) → World → Prop) (W : World) (hBs : W.cell? ⟨Bs, 0, none⟩ = some (.slice none 0 0)) (h0 : J [] W) :
    CallsIn F n Try.prog 107 #[.func (.yield l) #[] #[], .pointer (some ⟨Bs, 0, none⟩)] W fun e W' => (∃ v, e = .returned v) ∧ J [] W' := by
  refine callsIn_of_wp Try.func107 rfl hf ?_ hro
  simp only [Try.ntmps107, List.size_toArray, List.length_cons, List.length_nil, Nat.reduceAdd, Nat.reduceSub, Array.replicate_succ, Array.replicate_zero, List.push_toArray, List.append_toArray, List.nil_append, List.cons_append]
  gi_wp2
  gi_loopw [3] (fun i wr => i = .int .i64 (-1) ∧ J [] wr) (fun _ _ => 0)
  case atStart => exact ⟨rfl, h0⟩
  case round =>
    obtain ⟨rfl, hJs⟩ := hrel
    gi_wp2
    go_end0
    exact ⟨⟨_, rfl⟩, hJs⟩

set_option maxHeartbeats 1000000 in
/-- The iterator's maker: the list's value is boxed, the function value captures the box. -/
theorem back_in (F : Fence) (n : Nat) (hf : F.fn 79) (hro : F.round = none) (a : Option Addr) (len cap : Nat) (w : World) :
    CallsIn F n Try.prog 79 #[.slice a len cap] w fun e w' => e = .returned (.func (.func 107) #[] #[.pointer (some ⟨w.heap.size, 0, none⟩)]) ∧ w' = w.alloc (.cells #[.slice a len cap] 85) := by
  refine callsIn_of_wp Try.func79 rfl hf ?_ hro
  simp only [Try.ntmps79, List.size_toArray, List.length_cons, List.length_nil, Nat.reduceAdd, Nat.reduceSub, Array.replicate_succ, Array.replicate_zero, List.push_toArray, List.append_toArray, List.nil_append, List.cons_append]
  gi_wp2
  go_ret
  exact ⟨rfl, rfl⟩

/-- The list's value, and its crowds in blocks below n₀. -/
def CrowdsAt (n₀ : Nat) (W : World) (a : Option Addr) (len cap : Nat) (ls : List Trip) : Prop :=
  ls.length = len ∧ ((a = none ∧ len = 0 ∧ cap = 0) ∨ ∃ b off, a = some ⟨b, off, none⟩ ∧ b < n₀ ∧ ∀ j u, (crowdsOf (tripVals ls))[j]? = some u → W.cell? ⟨b, off + j, none⟩ = some u)
theorem CrowdsAt.below {n₀ : Nat} {A B : World} {a : Option Addr} {len cap : Nat} {ls : List Trip} (h : CrowdsAt n₀ A a len cap ls) (hb : Below n₀ A B) : CrowdsAt n₀ B a len cap ls := by
  obtain ⟨h1, h2 | ⟨b, off, h3, h4, h5⟩⟩ := h
  · exact ⟨h1, .inl h2⟩
  · exact ⟨h1, .inr ⟨b, off, h3, h4, fun j u hu => (hb.cell (p := ⟨b, off + j, none⟩) h4).trans (h5 j u hu)⟩⟩
theorem back_stops (F : Fence) (n : Nat) (hf : F.fn 107) (hro : F.round = none) (hn : 1 ≤ n) (Bs n₀ : Nat) (a : Option Addr) (len cap : Nat) (ls : List Trip) (h40 : len ≤ 40) (w : World) (hBs : Bs < w.heap.size) (hn₀ : n₀ ≤ w.heap.size)
    (hc : w.cell? ⟨Bs, 0, none⟩ = some (.slice a len cap)) (hI : CrowdsAt n₀ w a len cap ls) :
    SeqStopsK F n Try.prog 107 #[.pointer (some ⟨Bs, 0, none⟩)] (fun x : Nat × Trip => #[Value.int .i64 (x.1 : Int), Value.agg (crowdCells x.2.1)]) (KeepB n₀ Bs) (fun ys => ys = comeUp (behind ls) len)
      (fun pre => ∃ k, k ≤ len ∧ pre = comeUp (behind ls) k) len w := fun l J Jx W hW _ _ hY h0 => by
  have hc' := (hW.cell (p := ⟨Bs, 0, none⟩) hBs).trans hc
  obtain ⟨h1, ⟨rfl, rfl, rfl⟩ | ⟨b, off, rfl, hb, hcs⟩⟩ := hI.below (hW.mono hn₀)
  · exact (back1_nil_in F n hf hro l Bs J W hc' h0).mono fun e W' ⟨he, hj⟩ => ⟨he, .inl ⟨_, rfl, hj⟩⟩
  · exact back1_in F n hf hro hn l Bs n₀ b off len cap ls h1 h40 hb J Jx hY W hc' hcs h0
end Go.Proofs.Ytionmcgaicijkaa
