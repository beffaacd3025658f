/-
  What is proved: contracts of the laws' own helpers for lists of lists of lists of numbers: their size, their copy, their comparison, their marks. Conditions: the given lists are read as they lie; a copy is of at most 1,048,576 numbers.
  What is proved: contracts of the laws' comparison of lists of lists of lists of numbers. Conditions: the given lists are read as they lie.
  What is proved: a contract of the model's camp behind rounds (toPlay). Conditions: the night is one, the camp one of it; the lists are read as they lie.
  What is proved: contracts of the model's plans of a night (toPlan, NightTime, IsNightPlan). Conditions: the arguments are read as they lie.
  What is proved: contracts of NightTime and IsNightPlan, of the model and of the program. Conditions: the arguments are read as they lie.
  What is proved: the law FnExactNightTime returns true at every argument, and leaves all that was there as it was. Conditions: the arguments are read as they lie.
-/
import Derived.BigQuiet
import Derived.Deep.QuietTactic
import Derived.Deep.DeepCutAuto
import Derived.Deep.RegionHeld3
import Derived.Test.YtifaadjbkbdbnaaJ1RoundAfter
set_option linter.unusedSimpArgs false
set_option linter.unusedVariables false
namespace Go.Proofs.Ytifaadjbkbdbnaa
open Go.RowKit

/-- The sizes of the first k lists of lists together, and of all with their number. -/
def partC (gs : List GridV) (k : Nat) : Nat := ((gs.take k).map fun g => total g.rs).sum
def totalC (gs : List GridV) : Nat := gs.length + partC gs gs.length
theorem partC_zero (gs : List GridV) : partC gs 0 = 0 := rfl
theorem partC_next {gs : List GridV} {k : Nat} (hk : k < gs.length) : partC gs (k + 1) = partC gs k + total gs[k].rs := by
  rw [partC, partC, List.take_succ_eq_append_getElem hk, List.map_append, List.sum_append]
  simp
theorem partC_le {gs : List GridV} : ∀ {k : Nat}, k ≤ gs.length → ∀ {j : Nat}, j ≤ k → partC gs j ≤ partC gs k
  | 0, _, j, hj => by obtain rfl : j = 0 := by omega
                      exact Nat.le_refl _
  | k + 1, hk, j, hj => by
    rcases Nat.lt_or_ge j (k + 1) with h | h
    · have h1 := partC_le (gs := gs) (k := k) (by omega) (j := j) (by omega)
      have h2 := partC_next (gs := gs) (k := k) (by omega)
      omega
    · obtain rfl : j = k + 1 := by omega
      exact Nat.le_refl _
theorem totalC_row {gs : List GridV} {k : Nat} (hk : k < gs.length) : total gs[k].rs ≤ totalC gs := by
  have h1 := partC_next hk
  have h2 := partC_le (gs := gs) (Nat.le_refl _) (j := k + 1) (by omega)
  unfold totalC
  omega
theorem totalC_len (gs : List GridV) : gs.length ≤ totalC gs := by unfold totalC; omega
def cubeLeft (gs : List GridV) (l : Int) : Int := if l < (totalC gs : Int) then -1 else l - (totalC gs : Int)
theorem cubeLeft_no {gs : List GridV} {l : Int} {k : Nat} (hk : k ≤ gs.length) (h : l < (gs.length : Int) + (partC gs k : Int)) : cubeLeft gs l = -1 := by
  have h2 := partC_le (gs := gs) (Nat.le_refl _) (j := k) hk
  rw [cubeLeft, if_pos (by unfold totalC; omega)]
theorem cubeLeft_yes {gs : List GridV} {l : Int} (h : (gs.length : Int) + (partC gs gs.length : Int) ≤ l) : cubeLeft gs l = l - ((gs.length : Int) + (partC gs gs.length : Int)) := by
  rw [cubeLeft, if_neg (by unfold totalC; omega)]
  unfold totalC
  omega

set_option maxHeartbeats 1600000 in
theorem szIntSSS_any (A : Option Addr) (n c : Nat) (gs : List GridV) (l : Int) (w : World) (hA : Cube w A gs) (hx : gs.length = n) (hn : n ≤ 9223372036854775807) (h0 : 0 ≤ l) (h1 : l ≤ 1048576) :
    Calls Try.prog 54 #[.slice A n c, .int .i64 l] w fun e w' => e = .returned (.int .i64 (cubeLeft gs l)) ∧ w = w' := by
  subst hx
  by_cases h : l < gs.length
  · have h' : l - gs.length < 0 := by omega
    have HN := Lib.hid (cubeLeft_no (gs := gs) (k := 0) (l := l) (Nat.zero_le _) (by rw [partC_zero]; omega))
    go_enter Try.func54, Try.ntmps54
    go_wp2
    go_ret
    exact ⟨ret_of (by rw [HN.out]; rfl), rfl⟩
  · have h' : ¬ l - gs.length < 0 := by omega
    go_enter Try.func54, Try.ntmps54
    go_wp2
    go_loop [1, 5] (fun v i => ∃ (k : Nat) (x : Int), k ≤ gs.length ∧ i = .int .i64 k ∧ v = .int .i64 x ∧ 0 ≤ x ∧ x ≤ 1048576 ∧ x + (gs.length : Int) + (partC gs k : Int) = l) (fun _ i => gs.length - (intOf i).toNat)
    case atStart => exact ⟨0, _, Nat.zero_le _, rfl, rfl, by omega, by omega, by rw [partC_zero]; omega⟩
    case round =>
      obtain ⟨k, x, hk, rfl, rfl, hx0, hx1, hl⟩ := hrel
      by_cases hlt : k < gs.length
      · obtain ⟨b, o, rfl, hb, hc, hok⟩ := hA.look hlt
        have hp := partC_next hlt
        have HOK := Lib.hid hok
        clear hok
        by_cases hs : x < (total gs[k].rs : Int)
        · have HN := Lib.hid (cubeLeft_no (gs := gs) (k := k + 1) (l := l) (by omega) (by omega))
          have HT : Hid (totalLeft gs[k].rs x = -1) := if_pos hs
          clear hl hp h h' hs
          go_wp2_with (go_at_call 48; refine (szIntSS_any _ _ _ gs[k].rs _ _ HOK.out.1 HOK.out.2.1 HOK.out.2.2 hx0 hx1).mono ?_; rintro e w' ⟨rfl, rfl⟩; rw [HT.out])
          go_ret
          exact ⟨ret_of (by rw [HN.out]; rfl), rfl⟩
        · have hl2 : x - total gs[k].rs + (gs.length : Int) + (partC gs (k + 1) : Int) = l := by omega
          have HL := Lib.hid hl2
          have hx2 : 0 ≤ x - (total gs[k].rs : Int) := by omega
          have hx3 : x - (total gs[k].rs : Int) ≤ 1048576 := by omega
          have HT : Hid (totalLeft gs[k].rs x = x - (total gs[k].rs : Int)) := if_neg hs
          clear hl hp h h' hl2 hs
          go_wp2_with (go_at_call 48; refine (szIntSS_any _ _ _ gs[k].rs _ _ HOK.out.1 HOK.out.2.1 HOK.out.2.2 hx0 hx1).mono ?_; rintro e w' ⟨rfl, rfl⟩; rw [HT.out])
          go_round
          case rel => exact ⟨k + 1, _, by omega, by go_num, rfl, hx2, hx3, HL.out⟩
          case measure => simp [intOf]; omega
      · have hkn : k = gs.length := by omega
        subst hkn
        have HN := Lib.hid (cubeLeft_yes (gs := gs) (l := l) (by omega))
        have HV := Lib.hid (show x = l - ((gs.length : Int) + (partC gs gs.length : Int)) by omega)
        clear hl h h'
        go_wp2
        go_ret
        exact ⟨ret_of (by rw [HN.out, ← HV.out]; rfl), rfl⟩

/-- Lists of lists of the call's own, each in blocks behind those of the one before. -/
def OwnGrids (w : World) : Nat → Nat → List GridV → Prop
  | lo, hi, [] => lo ≤ hi
  | lo, hi, g :: gs => ∃ mid, lo ≤ mid ∧ FreeGrid w lo mid g.A g.rs ∧ g.rs.length = g.n ∧ g.n ≤ 1048576 ∧ OwnGrids w mid hi gs
theorem OwnGrids.le {w : World} : ∀ {gs : List GridV} {lo hi : Nat}, OwnGrids w lo hi gs → lo ≤ hi
  | [], _, _, h => h
  | _ :: _, _, _, ⟨_, h1, _, _, _, h2⟩ => Nat.le_trans h1 h2.le
theorem OwnGrids.below {w w' : World} (hb : Below w.heap.size w w') : ∀ {gs : List GridV} {lo hi : Nat}, OwnGrids w lo hi gs → OwnGrids w' lo hi gs
  | [], _, _, h => h
  | _ :: _, _, _, ⟨m, h1, hf, hl, hn, h2⟩ => ⟨m, h1, hf.below hb, hl, hn, h2.below hb⟩
theorem span_set (w : World) (b o : Nat) (u : Value) : Span b (b + 1) w (w.setCell ⟨b, o, none⟩ u) := by
  have h := below_set (Below.refl b w) (b := b) (o := o) (u := u) (Nat.le_refl _)
  refine ⟨h.os, h.tape, h.output, h.size, fun k hk hd => ?_⟩
  rcases hd with hd | hd
  · exact h.block k hd
  · exact Below.heap_setCell _ _ _ _ (by show k ≠ b; omega)
theorem FreeGrid.set_out {w : World} {lo hi b o : Nat} {A : Option Addr} {rs : List RowV} {u : Value} (h : FreeGrid w lo hi A rs) (hb : b < lo ∨ hi ≤ b) : FreeGrid (w.setCell ⟨b, o, none⟩ u) lo hi A rs :=
  (span_set w b o u).freeGrid h (by omega)
theorem OwnGrids.set_out {w : World} {b o : Nat} {u : Value} : ∀ {gs : List GridV} {lo hi : Nat}, OwnGrids w lo hi gs → (b < lo ∨ hi ≤ b) → OwnGrids (w.setCell ⟨b, o, none⟩ u) lo hi gs
  | [], _, _, h, _ => h
  | _ :: _, _, _, ⟨m, h1, hf, hl, hn, h2⟩, hd => ⟨m, h1, hf.set_out (by have := h2.le; omega), hl, hn, h2.set_out (by omega)⟩
theorem OwnGrids.snoc {w : World} {g : GridV} : ∀ {gs : List GridV} {lo mid hi : Nat}, OwnGrids w lo mid gs → mid ≤ hi → FreeGrid w mid hi g.A g.rs → g.rs.length = g.n → g.n ≤ 1048576 → OwnGrids w lo hi (gs ++ [g])
  | [], _, _, hi, h, hm, hf, hl, hn => ⟨hi, Nat.le_trans h hm, hf.more h (Nat.le_refl _), hl, hn, Nat.le_refl _⟩
  | _ :: _, _, _, _, ⟨m, h1, hg, hk, ho, h2⟩, hm, hf, hl, hn => ⟨m, h1, hg, hk, ho, h2.snoc hm hf hl hn⟩
theorem OwnGrids.ok {w : World} : ∀ {gs : List GridV} {lo hi : Nat}, OwnGrids w lo hi gs → ∀ g ∈ gs, GridOk w g ∧ g.n ≤ 1048576
  | [], _, _, _, _, hr => by cases hr
  | g :: gs, _, _, ⟨_, _, hf, hl, hn, h2⟩, x, hx => by
    rcases List.mem_cons.1 hx with rfl | hx
    · exact ⟨⟨hf.grid, hl, by omega⟩, hn⟩
    · exact h2.ok x hx
/-- All of it: block g tells where the lists of lists lie, which are behind it and before hi. -/
def OwnCube (w : World) (g hi : Nat) (gs : List GridV) : Prop := Whole w g 30 (gridVals gs).toArray ∧ OwnGrids w (g + 1) hi gs
theorem OwnCube.cube {w : World} {g hi : Nat} {gs : List GridV} (h : OwnCube w g hi gs) : Cube w (some ⟨g, 0, none⟩) gs := ⟨h.1.holds, fun x hx => (h.2.ok x hx).1⟩
theorem OwnCube.small {w : World} {g hi : Nat} {gs : List GridV} (h : OwnCube w g hi gs) : ∀ k (hk : k < gs.length), gs[k].n ≤ 1048576 := fun k hk => (h.2.ok _ (List.getElem_mem hk)).2
theorem OwnCube.below {w w' : World} {g hi : Nat} {gs : List GridV} (h : OwnCube w g hi gs) (hb : Below w.heap.size w w') : OwnCube w' g hi gs := ⟨h.1.below hb, h.2.below hb⟩
theorem OwnCube.alloc {w : World} {g hi : Nat} {gs : List GridV} (h : OwnCube w g hi gs) (o : Obj) : OwnCube (w.alloc o) g hi gs := h.below (below1 w o)
theorem OwnCube.drew {w : World} {g hi : Nat} {gs : List GridV} (h : OwnCube w g hi gs) : OwnCube w.drew g hi gs := h.below ⟨rfl, rfl, rfl, Nat.le_refl _, fun _ _ => rfl⟩

/-- What stands in the copy's block behind k rounds. -/
def filledG (ws : List GridV) (n : Nat) : Array Value := (gridVals ws ++ List.replicate (n - ws.length) (Value.slice none 0 0)).toArray
theorem filledG_done {ws : List GridV} {n : Nat} (h : ws.length = n) : filledG ws n = (gridVals ws).toArray := by simp [filledG, h]
theorem filledG_at {ws : List GridV} {n : Nat} (h : ws.length < n) : (filledG ws n)[ws.length]? = some (.slice none 0 0) := by
  simp only [filledG, List.getElem?_toArray]
  rw [List.getElem?_append_right (by rw [gridVals_len]; omega)]
  simp [gridVals_len, List.getElem?_replicate]
  omega
theorem filledG_next {ws : List GridV} {n : Nat} (g : GridV) (h : ws.length < n) : (filledG ws n).setIfInBounds ws.length g.val = filledG (ws ++ [g]) n := by
  obtain ⟨m, hm⟩ : ∃ m, n - ws.length = m + 1 := ⟨n - ws.length - 1, by omega⟩
  have hm' : n - (ws ++ [g]).length = m := by simp; omega
  unfold filledG
  rw [hm, hm', List.replicate_succ]
  simp only [gridVals, List.map_append, List.map_cons, List.map_nil, List.append_assoc, List.singleton_append]
  rw [List.setIfInBounds_toArray]
  congr 1
  rw [List.set_append_right _ _ (by simp)]
  simp
theorem info_grid : (Try.prog.info? 30).map (fun i => (i.zero, i.size, i.bytes)) = some (some (.slice none 0 0), 1, 24) := by kernel_rfl
/-- What toIntSSS hands back. -/
def CubePost (n : Nat) (gs : List GridV) (w : World) (e : Ending) (w' : World) : Prop :=
  ∃ (g : Nat) (ws : List GridV), e = .returned (.slice (some ⟨g, 0, none⟩) n n) ∧ w.heap.size ≤ g ∧ OwnCube w' g w'.heap.size ws ∧ cubeNums ws = cubeNums gs ∧ ws.length = n ∧ Below w.heap.size w w'
theorem cubeNums_next {ws gs : List GridV} {k : Nat} {g : GridV} (h : cubeNums ws = (cubeNums gs).take k) (hk : k < gs.length) (hr : rowNums g.rs = rowNums gs[k].rs) : cubeNums (ws ++ [g]) = (cubeNums gs).take (k + 1) := by
  rw [List.take_succ_eq_append_getElem (by rw [cubeNums_len]; exact hk), ← h]
  simp [cubeNums, hr]

set_option maxHeartbeats 3200000 in
theorem toIntSSS_any (A : Option Addr) (n c : Nat) (gs : List GridV) (w : World) (hA : Cube w A gs) (hx : gs.length = n) (ht : totalC gs ≤ 1048576) :
    Calls Try.prog 56 #[.slice A n c] w (CubePost n gs w) := by
  have hn : n ≤ 1048576 := by have := totalC_len gs; omega
  obtain ⟨i0, hi, hz0, hz1, hz2⟩ := info_parts info_grid
  have hmk : ∀ W : World, (Instr.makeSlice 64 (.int .i64 (n : Int)) (.int .i64 (n : Int))).run Try.prog W = .ok (.slice (some ⟨W.heap.size, 0, none⟩) n n) (W.alloc (.cells (filledG [] n) 30)) := by
    intro W
    have h := run_make (P := Try.prog) W 64 30 i0 _ Try.underlying64 hi hz0 .i64 .i64 n n (by omega) (by omega) (by rw [hz2]; omega) (by omega)
    simp only [Int.toNat_natCast, hz1, made_rows] at h
    rw [h]
    simp [filledG, gridVals]
  have HX := Lib.hid hx
  clear hi hz0 hz1 hz2 hx
  go_enter Try.func56, Try.ntmps56
  go_wp2
  have h0 := Whole.fresh w 30 (filledG [] n)
  have hb0 : Below w.heap.size w (w.alloc (.cells (filledG [] n) 30)) := (Below.refl _ _).alloc (Nat.le_refl _) _
  go_loopw [4] (fun i wr => ∃ (k : Nat) (ws : List GridV), k ≤ n ∧ i = .int .i64 k ∧ ws.length = k ∧ Whole wr w.heap.size 30 (filledG ws n) ∧ Below w.heap.size w wr ∧ OwnGrids wr (w.heap.size + 1) wr.heap.size ws ∧ cubeNums ws = (cubeNums gs).take k) (fun i _ => n - (intOf i).toNat)
  case atStart => exact ⟨0, [], Nat.zero_le _, rfl, rfl, h0, hb0, by simp [OwnGrids], rfl⟩
  case round =>
    obtain ⟨k, ws, hk, rfl, hlen, hw, hb, hown, hnums⟩ := hrel
    clear hmk h0 hb0
    subst hlen
    have HNUM := Lib.hid hnums
    have hwl := hw.lt
    by_cases hlt : ws.length < n
    · have hkr : ws.length < gs.length := by have := HX.out; omega
      obtain ⟨b, o, rfl, hbl, hc, hok⟩ := (hA.below hb).look hkr
      have hsz : total gs[ws.length].rs ≤ 1048576 := Nat.le_trans (totalC_row hkr) ht
      have hsn : gs[ws.length].n ≤ 1048576 := by have := total_len gs[ws.length].rs; have := hok.2.1; omega
      clear hnums
      go_wp2_with fail
      refine (toIntSS_any _ _ _ gs[ws.length].rs _ hok.1 hok.2.1 hsz).mono ?_
      rintro e w1 ⟨g1, rs1, rfl, hg1, hw1, he1, hl1, hb1⟩
      have hF := hw1.free.more (lo' := wr.heap.size) (hi' := w1.heap.size) hg1 (Nat.le_refl _)
      have hwz : wr.heap.size ≤ w1.heap.size := hb1.size
      have hown1 := (hown.below hb1).snoc (g := ⟨some ⟨g1, 0, none⟩, gs[ws.length].n, gs[ws.length].n, rs1⟩) hwz hF hl1 hsn
      have hown2 := hown1.set_out (b := w.heap.size) (o := ws.length) (u := .slice (some ⟨g1, 0, none⟩) gs[ws.length].n gs[ws.length].n) (.inl (by omega))
      have hw2 := hw.below hb1
      have hcell : w1.cell? ⟨w.heap.size, ws.length, none⟩ = some (.slice none 0 0) := (hw2.cell _).trans (filledG_at hlt)
      have hfr := hw2.open_ ws.length
      have hnext := hw2.set_ ws.length (.slice (some ⟨g1, 0, none⟩) gs[ws.length].n gs[ws.length].n)
      rw [show (Value.slice (some ⟨g1, 0, none⟩) gs[ws.length].n gs[ws.length].n) = GridV.val ⟨some ⟨g1, 0, none⟩, gs[ws.length].n, gs[ws.length].n, rs1⟩ from rfl, filledG_next _ hlt] at hnext
      have hbw := below_then hb hb1 hb.size
      have HNX := Lib.hid (cubeNums_next (g := ⟨some ⟨g1, 0, none⟩, gs[ws.length].n, gs[ws.length].n, rs1⟩) HNUM.out hkr he1)
      have HO := Lib.hid hown2
      have HN := Lib.hid hnext
      clear hown hown1 hown2 hnext hw hw2 hF hb hc hw1 hok he1
      go_wp2
      go_roundw
      case rel => exact ⟨ws.length + 1, _, by omega, by go_num, by simp, HN.out, hbw.setCell (Nat.le_refl _) _, by simpa [World.setCell] using HO.out, HNX.out⟩
      case measure => simp [intOf]; omega
    · have hkn : ws.length = n := by omega
      rw [filledG_done hkn] at hw
      have HK := Lib.hid hkn
      clear hnums hkn
      go_wp2
      go_ret
      exact ⟨w.heap.size, ws, rfl, Nat.le_refl _, ⟨hw, hown⟩, by rw [HNUM.out, List.take_of_length_le (by rw [cubeNums_len, HX.out, HK.out]; exact Nat.le_refl _)], HK.out, hb⟩
theorem cubeNums_at {gs hs : List GridV} (h : cubeNums gs = cubeNums hs) {k : Nat} (hk : k < gs.length) (hk' : k < hs.length) : rowNums gs[k].rs = rowNums hs[k].rs := by
  have h1 := congrArg (fun l : List (List (List Int)) => l[k]?) h
  simpa [cubeNums, hk, hk'] using h1
end Go.Proofs.Ytifaadjbkbdbnaa

namespace Go.Proofs.Ytifaadjbkbdbnaa
open Go.RowKit

set_option maxHeartbeats 800000 in
set_option linter.unusedVariables false in
/-- Two lists of lists of one reading are the same; nothing but draws. -/
theorem eqIntSS_quiet (A B : Option Addr) (n m c d : Nat) (rs ss : List RowV) (w : World) (hA : Grid w A rs) (hB : Grid w B ss) (he : rowNums rs = rowNums ss) (hx : rs.length = n) (hy : ss.length = m) (hn : n ≤ 9223372036854775807) :
    Calls Try.prog 21 #[.slice A n c, .slice B m d] w fun e w' => e = .returned (.bool true) ∧ ∃ q, w' = w.drewN q := by
  have hl : rs.length = ss.length := by rw [← rowNums_len rs, ← rowNums_len ss, he]
  subst hx hy
  have hl' : ((rs.length : Int) != (ss.length : Int)) = false := by simp [hl]
  have HL := Lib.hid hl
  have HE := Lib.hid he
  clear hl he
  go_enter Try.func21, Try.ntmps21
  go_wp2
  go_loopw [5] (fun i wr => ∃ k q : Nat, k ≤ rs.length ∧ i = .int .i64 k ∧ wr = w.drewN q) (fun i _ => rs.length - (intOf i).toNat)
  case atStart => exact ⟨0, 0, Nat.zero_le _, rfl, rfl⟩
  case round =>
    obtain ⟨k, q, hk, rfl, hwr⟩ := hrel
    have hb : Below w.heap.size w wr := by rw [hwr]; exact below_draws (Below.refl _ _) q
    have HWR := Lib.hid hwr
    clear hwr
    by_cases hlt : k < rs.length
    · have hlt' : k < ss.length := by have := HL.out; omega
      obtain ⟨b, o, rfl, hbl, hc, hok⟩ := (hA.below hb).look hlt
      obtain ⟨b', o', rfl, hbl', hc', hok'⟩ := (hB.below hb).look hlt'
      have HV := Lib.hid (rowNums_at HE.out hlt hlt')
      go_wp2
      go_quiet ((go_at_call 75; exact eqIntS_drawn _ _ _ _ _ _ rs[k].xs ss[k].xs wr _ (hok.1.below (below_draws (Below.refl _ _) _)) (hok'.1.below (below_draws (Below.refl _ _) _)) hok.2.1 hok'.2.1 HV.out hok.2.2))
      rw [HWR.out]
      go_wp2
      go_roundw
      case rel => exact ⟨k + 1, _, by omega, by go_num, rfl⟩
      case measure => simp [intOf]; omega
    · go_wp2
      go_ret
      exact ⟨rfl, q, HWR.out⟩
theorem eqIntSS_drawn (A B : Option Addr) (n m c d : Nat) (rs ss : List RowV) (w : World) (k : Nat) (hA : Grid (w.drewN k) A rs) (hB : Grid (w.drewN k) B ss) (he : rowNums rs = rowNums ss) (hx : rs.length = n) (hy : ss.length = m) (hn : n ≤ 9223372036854775807) :
    Calls Try.prog 21 #[.slice A n c, .slice B m d] (w.drewN k) fun e w' => e = .returned (.bool true) ∧ ∃ q, w' = w.drewN q :=
  (eqIntSS_quiet A B n m c d rs ss _ hA hB he hx hy hn).mono fun _ _ ⟨h, q, hq⟩ => ⟨h, _, hq.trans (World.drewN_drewN _ _ _)⟩

set_option maxHeartbeats 800000 in
set_option linter.unusedVariables false in
theorem eqIntSSS_yes (A B : Option Addr) (n m c d : Nat) (gs hs : List GridV) (w : World) (hA : Cube w A gs) (hB : Cube w B hs) (he : cubeNums gs = cubeNums hs) (hx : gs.length = n) (hy : hs.length = m) (hn : n ≤ 9223372036854775807) :
    Calls Try.prog 45 #[.slice A n c, .slice B m d] w fun e w' => e = .returned (.bool true) ∧ Below w.heap.size w w' := by
  have hl : gs.length = hs.length := by rw [← cubeNums_len gs, ← cubeNums_len hs, he]
  subst hx hy
  have hl' : ((gs.length : Int) != (hs.length : Int)) = false := by simp [hl]
  have HL := Lib.hid hl
  have HE := Lib.hid he
  clear hl he
  go_enter Try.func45, Try.ntmps45
  go_wp2
  go_loopw [5] (fun i wr => ∃ k : Nat, k ≤ gs.length ∧ i = .int .i64 k ∧ Below w.heap.size w wr) (fun i _ => gs.length - (intOf i).toNat)
  case atStart => exact ⟨0, Nat.zero_le _, rfl, Below.refl _ _⟩
  case round =>
    obtain ⟨k, hk, rfl, hb⟩ := hrel
    by_cases hlt : k < gs.length
    · have hlt' : k < hs.length := by have := HL.out; omega
      obtain ⟨b, o, rfl, hbl, hc, hok⟩ := (hA.below hb).look hlt
      obtain ⟨b', o', rfl, hbl', hc', hok'⟩ := (hB.below hb).look hlt'
      have HV := Lib.hid (cubeNums_at HE.out hlt hlt')
      go_wp2
      go_quiet ((go_at_call 21; exact eqIntSS_drawn _ _ _ _ _ _ gs[k].rs hs[k].rs wr _ (hok.1.below (below_draws (Below.refl _ _) _)) (hok'.1.below (below_draws (Below.refl _ _) _)) HV.out hok.2.1 hok'.2.1 hok.2.2))
      go_wp2
      go_roundw
      case rel => exact ⟨k + 1, by omega, by go_num, below_draws hb _⟩
      case measure => simp [intOf]; omega
    · go_wp2
      go_ret
      exact ⟨rfl, hb⟩
end Go.Proofs.Ytifaadjbkbdbnaa

namespace Go.Proofs.Ytifaadjbkbdbnaa
open Go.RowKit

theorem fresh_some {w : World} {lo hi : Nat} {ty : TypeId} {A : Option Addr} {xs : List Value} (h : Fresh w lo hi ty A xs) (h0 : 0 < xs.length) : ∃ g, A = some ⟨g, 0, none⟩ ∧ lo ≤ g ∧ g < hi ∧ g < w.heap.size ∧ ∀ j x, xs[j]? = some x → w.cell? ⟨g, 0 + j, none⟩ = some x := by
  have hh := h.holds
  rcases h with rfl | ⟨g, cs, hA, h1, h2, hw, h3, h4⟩
  · simp at h0
  · refine ⟨g, hA, h1, h2, hw.lt, ?_⟩
    rcases hh with rfl | ⟨b, o, hB, hb, hc⟩
    · simp at h0
    · rw [hA] at hB
      simp only [Option.some.injEq, Addr.mk.injEq] at hB
      obtain ⟨rfl, rfl, -⟩ := hB
      exact hc
/-- What stands behind the model's copy of the camp. -/
def PlayMid (A : Option Addr) (n c : Nat) (s t : Int) (m : Nat) (bs : List Bool) (u : Int) (w : World) (v : Value) (wx : World) : Prop :=
  ∃ (c1 lo hi : Nat) (A1 : Option Addr), v = .pointer (some ⟨w.heap.size + 1, 0, none⟩) ∧ w.heap.size + 1 + 1 + 1 ≤ lo ∧ hi ≤ wx.heap.size ∧ Whole wx (w.heap.size + 1) 56 #[.slice A1 m c1, .int .i64 u] ∧ Fresh wx lo hi 4 A1 (bits bs) ∧ Whole wx w.heap.size 48 #[.slice A n c, .int .i64 s, .int .i64 t] ∧ Whole wx (w.heap.size + 1 + 1) 56 #[.slice none 0 0, .int .i64 0] ∧ Below w.heap.size w wx
/-- What toPlay hands back. -/
def PlayPostN (n : Nat) (s t : Int) (m : Nat) (p : List Bool × Int) (Gs : List (List (List Int))) (w : World) (e : Ending) (w' : World) : Prop :=
  ((playOk n s t p Gs = true ∧ ∃ (A1 : Option Addr) (c1 : Nat), e = .returned (.tuple #[.agg #[.slice A1 m c1, .int .i64 (afterAll p Gs).2], .bool true]) ∧ Fresh w' w.heap.size w'.heap.size 4 A1 (bits (afterAll p Gs).1)) ∨
    (playOk n s t p Gs = false ∧ ∃ (A1 : Option Addr) (c1 : Nat) (v : Int), e = .returned (.tuple #[.agg #[.slice A1 m c1, .int .i64 v], .bool false]))) ∧ Below w.heap.size w w'

set_option maxHeartbeats 12800000 in
set_option maxRecDepth 100000 in
set_option linter.unusedVariables false in
theorem toPlay_any (A : Option Addr) (n c : Nat) (s t : Int) (b o m d : Nat) (bs : List Bool) (u : Int) (D : Option Addr) (q z : Nat) (gs : List GridV) (w : World) (hn : n ≤ 8) (hn1 : 1 ≤ n) (ht8 : t ≤ 8) (hs8 : s ≤ 8) (hB : ∀ j x, (bits bs)[j]? = some x → w.cell? ⟨b, o + j, none⟩ = some x) (hy : bs.length = m) (hm : m = n) (hu : 0 ≤ u ∧ u ≤ t) (hD : Cube w D gs) (hz : gs.length = q) (hq : q ≤ 9223372036854775807) (hsm : ∀ k (hk : k < gs.length), gs[k].n ≤ 1048576) :
    Calls Try.prog 93 #[.agg #[.slice A n c, .int .i64 s, .int .i64 t], .agg #[.slice (some ⟨b, o, none⟩) m d, .int .i64 u], .slice D q z] w (PlayPostN n s t m (bs, u) (cubeNums gs) w) := by
  subst hz
  obtain ⟨i0, hi, hz0, hz1, hz2⟩ := info_parts info_bool
  have HI := Lib.hid hi
  have HZ0 := Lib.hid hz0
  have HZ1 := Lib.hid hz1
  have HZ2 := Lib.hid hz2
  have HB := Lib.hid hB
  have HY := Lib.hid hy
  have HM := Lib.hid hm
  have HSM := Lib.hid hsm
  have HCL := Lib.hid (cubeNums_len gs)
  have hm8 : m ≤ 8 := by omega
  have hm1 : 1 ≤ m := by omega
  have h0 := ((Whole.fresh w 48 #[.slice A n c, .int .i64 s, .int .i64 t]).alloc (.cells #[.slice (some ⟨b, o, none⟩) m d, .int .i64 u] 56)).alloc (.cells #[.slice none 0 0, .int .i64 0] 56)
  have h1 := (Whole.fresh (w.alloc (.cells #[.slice A n c, .int .i64 s, .int .i64 t] 48)) 56 #[.slice (some ⟨b, o, none⟩) m d, .int .i64 u]).alloc (.cells #[.slice none 0 0, .int .i64 0] 56)
  have hr := Whole.fresh ((w.alloc (.cells #[.slice A n c, .int .i64 s, .int .i64 t] 48)).alloc (.cells #[.slice (some ⟨b, o, none⟩) m d, .int .i64 u] 56)) 56 #[.slice none 0 0, .int .i64 0]
  simp only [World.size_alloc] at h1 hr
  have ht := below3 w (.cells #[.slice A n c, .int .i64 s, .int .i64 t] 48) (.cells #[.slice (some ⟨b, o, none⟩) m d, .int .i64 u] 56) (.cells #[.slice none 0 0, .int .i64 0] 56)
  obtain ⟨d0, d1, d2, d3⟩ := h1.two
  have hB1 : ∀ j x, (bits bs)[j]? = some x → World.cell? (World.drew ((((w.alloc (.cells #[.slice A n c, .int .i64 s, .int .i64 t] 48)).alloc (.cells #[.slice (some ⟨b, o, none⟩) m d, .int .i64 u] 56)).alloc (.cells #[.slice none 0 0, .int .i64 0] 56)).alloc (.cells #[] 4))) ((⟨b, o, none⟩ : Addr).add j) = some x := fun j x hu => by
    rw [show (⟨b, o, none⟩ : Addr).add j = ⟨b, o + j, none⟩ from by unfold Addr.add; split <;> simp_all]
    have h := HB.out j x hu
    rw [← h]
    exact (below4 w _ _ _ _).cell (p := ⟨b, o + j, none⟩) (block_lt_of_cell h)
  have HN1 := Lib.hid hB1
  have HLEN := Lib.hid (show (bits bs).length = m * 1 by rw [bits_len, HY.out, Nat.mul_one])
  have HONE := Lib.hid (bits_one bs)
  have H0 := Lib.hid (h0.alloc (.cells #[] 4)).drew
  have H1 := Lib.hid (h1.alloc (.cells #[] 4)).drew
  have HR := Lib.hid (hr.alloc (.cells #[] 4)).drew
  have HT := Lib.hid (ht.alloc ht.size (.cells #[] 4)).drew
  clear hi hz0 hz1 hz2 hB hy hm hsm hB1 h0 h1 hr ht
  go_enter Try.func93, Try.ntmps93
  go_upto_region 1 with fail
  go_cut [4] (fun s4 wx => PlayMid A n c s t m bs u w s4 wx)
  case first =>
    go_region_law (refine step_append_grows rfl (.tmp 10) (.tmp 12) 25 rfl 4 i0 (.bool false) 1 1 Try.underlying25 HI.out HZ0.out HZ1.out HZ2.out rfl (by decide) (some ⟨w.heap.size + 1 + 1 + 1, 0, none⟩) 0 0 [] rfl (by intro h; cases h) rfl (by intro x hx j u hu; simp at hu) ⟨b, o, none⟩ m d (bits bs) rfl HLEN.out HN1.out HONE.out (by omega) (by unfold maxLen; omega) (by omega) ?_; intro v' w1 hown1 hg1; simp only [Nat.zero_add, List.nil_append] at hown1; obtain ⟨A1, c1, hv', hf⟩ := Fresh.of_own hown1 (Nat.le_refl _); subst hv'; have hn1' : Whole w1 w.heap.size 48 #[.slice A n c, .int .i64 s, .int .i64 t] := (hg1.block _ H0.out.lt (fun e => by cases e)).trans H0.out; have hc1 : Whole w1 (w.heap.size + 1) 56 #[.slice (some ⟨b, o, none⟩) m d, .int .i64 u] := (hg1.block _ H1.out.lt (fun e => by cases e)).trans H1.out; have hr1 : Whole w1 (w.heap.size + 1 + 1) 56 #[.slice none 0 0, .int .i64 0] := (hg1.block _ HR.out.lt (fun e => by cases e)).trans HR.out; have hbl := HT.out.grown hg1 (by simp; omega) (fun k e => by cases e); obtain ⟨k0, k1, k2, k3⟩ := hc1.two; clear hown1)
    all_goals
      have hrl := hr1.lt
      go_wp2_with fail
      go_meet
      exact ⟨c1, _, w1.heap.size, A1, rfl, by simp, by simp [World.setCell], by simpa using (hc1.set_ 0 (.slice A1 m c1)).set_ 1 (.int .i64 u), (hf.set_out (.inl (by simp))).set_out (.inl (by simp)), (hn1'.off (by omega)).off (by omega), (hr1.off (by omega)).off (by omega), below_set (below_set hbl (by omega)) (by omega)⟩
  case rest =>
    clear d0 d1 d2 d3 H0 H1 HR HT HN1 HLEN HONE HI HZ0 HZ1 HZ2
    obtain ⟨c1, lo, hi, A1, rfl, hlo, hhi, hC, hF, h0, hr, ht⟩ := hcut
    go_wp2
    go_loopw [19] (fun i wr => ∃ (k c1 lo hi : Nat) (A1 : Option Addr), k ≤ gs.length ∧ i = .int .i64 k ∧ w.heap.size + 1 + 1 + 1 ≤ lo ∧ hi ≤ wr.heap.size ∧ Whole wr (w.heap.size + 1) 56 #[.slice A1 m c1, .int .i64 (afterAll (bs, u) ((cubeNums gs).take k)).2] ∧ Fresh wr lo hi 4 A1 (bits (afterAll (bs, u) ((cubeNums gs).take k)).1) ∧ Whole wr w.heap.size 48 #[.slice A n c, .int .i64 s, .int .i64 t] ∧ Whole wr (w.heap.size + 1 + 1) 56 #[.slice none 0 0, .int .i64 0] ∧ Below w.heap.size w wr ∧ ∀ j, j < k → playAt n s t (bs, u) (cubeNums gs) j = true) (fun i _ => gs.length - (intOf i).toNat)
    case atStart => exact ⟨0, c1, lo, hi, A1, Nat.zero_le _, rfl, hlo, hhi, hC, hF, h0, hr, ht, fun j hj => absurd hj (by omega)⟩
    case round =>
      clear hC hF h0 hr ht hlo hhi
      obtain ⟨k, c1, lo, hi, A1, hk, rfl, hlo, hhi, hC, hF, h0, hr, ht, hall⟩ := hrel
      have HALL := Lib.hid hall
      have hti := torches_in (n := n) (s := s) (p := (bs, u)) (Gs := cubeNums gs) hu k (by have := HCL.out; omega) HALL.out
      have hlk := afterAll_len (bs, u) ((cubeNums gs).take k)
      obtain ⟨bk, hbk⟩ : ∃ bk, bk = (afterAll (bs, u) ((cubeNums gs).take k)).1 := ⟨_, rfl⟩
      obtain ⟨uk, huk⟩ : ∃ uk, uk = (afterAll (bs, u) ((cubeNums gs).take k)).2 := ⟨_, rfl⟩
      rw [← huk] at hC hti
      rw [← hbk] at hF hlk
      have HLK : Hid (bk.length = m) := hlk.trans HY.out
      have HBK := Lib.hid hbk
      have HUK := Lib.hid huk
      have hlb := hr.lt
      clear hall hlk hbk huk
      by_cases hlt : k < gs.length
      · have hkl : k < (cubeNums gs).length := by have := HCL.out; omega
        obtain ⟨b1, o1, hDe, hbl1, hc, hgr⟩ := (hD.below ht).look hlt
        subst hDe
        have HGT := Lib.hid (cubeNums_get hlt)
        have HPA := Lib.hid (playAt_get (n := n) (s := s) (t := t) (p := (bs, u)) hkl)
        rw [← HBK.out, ← HUK.out, HGT.out] at HPA
        have HAN := Lib.hid (afterAll_next (p := (bs, u)) hkl)
        rw [HGT.out] at HAN
        have hsm := HSM.out k hlt
        obtain ⟨c0, c1', c2⟩ := h0.cells3
        obtain ⟨d0, d1, -, -⟩ := hC.two
        have hca := toCan_any A n c [] s t A1 m c1 bk uk gs[k].A gs[k].n gs[k].c gs[k].rs wr hn hn1 ht8 hF.holds HLK.out HM.out (by omega) hgr.1 hgr.2.1 hsm hs8
        have HCA := Lib.hid hca
        have HGR := Lib.hid hgr
        clear hca hgr
        cases hg : canG n s t bk uk (rowNums gs[k].rs)
        all_goals
          have HG := Lib.hid hg
          go_wp2_with fail
          refine HCA.out.mono ?_
          clear HCA
          rintro e w3 ⟨rfl, hb3⟩
          rw [HG.out]
          replace h0 := h0.below hb3
          replace hC := hC.below hb3
          replace hr := hr.below hb3
          replace hF := hF.below hb3
          replace ht := below_then ht hb3 ht.size
          have hz3 := hb3.size
          have HGR3 := Lib.hid (HGR.out.below hb3)
          clear hb3 c0 c1' c2 d0 d1 HGR hc
          obtain ⟨d0, d1, d2, d3⟩ := hC.two
        · have HP : Hid (playOk n s t (bs, u) (cubeNums gs) = false) := playOk_no hkl (HPA.out.trans hg)
          obtain ⟨r0, r1, f0, f1⟩ := hr.two
          have hlr := hr.lt
          clear hg hr hC h0 hF
          go_wp2
          refine bodyPost_ret (v := .tuple #[.agg #[.slice A1 m c1, .int .i64 uk], .bool false]) (by simp [results, Try.results93, go_sem, r0, r1]) rfl ⟨.inr ⟨HP.out, A1, c1, uk, rfl⟩, below_set (below_set ht (by omega)) (by omega)⟩
        · have HPK := Lib.hid (HPA.out.trans hg)
          have hgo := groups_okG hg
          have hgk := groups_ok (show areGroups n s t (rowNums gs[k].rs) = true by rw [canG, Bool.and_eq_true] at hg; exact hg.1)
          have hq8 : gs[k].n ≤ 8 := by have := hgk.1.2; rw [rowNums_len, HGR3.out.2.1] at this; omega
          obtain ⟨g1, hA1, hg1, hg2, hg3, hcs⟩ := fresh_some hF (by rw [bits_len, HLK.out]; omega)
          subst hA1
          have haf := toAfter_any g1 0 m c1 gs[k].A gs[k].n gs[k].c n bk gs[k].rs uk w3 hcs HLK.out (by omega) hm8 HM.out HGR3.out.1 HGR3.out.2.1 hq8 (fun j hj => ⟨hgo.steps j hj, by have := (trip_parts (ok_trip hj (hgk.2 j hj))).1.1; omega⟩) hgo.sides (by omega)
          have hlf : (flipped bk (flat (rowNums gs[k].rs))).length = m := (flipped_len _ _).trans HLK.out
          have HAF := Lib.hid haf
          have HLF := Lib.hid hlf
          have HB2 : Hid (flipped bk (flat (rowNums gs[k].rs)) = (afterAll (bs, u) ((cubeNums gs).take (k + 1))).1) := by show _ = _; rw [HAN.out, afterR, HBK.out]
          have HU2 : Hid (uk + nearN bk (rowNums gs[k].rs) - farN bk (rowNums gs[k].rs) = (afterAll (bs, u) ((cubeNums gs).take (k + 1))).2) := by show _ = _; rw [HAN.out, afterR, HBK.out, HUK.out]
          clear hg hgo hgk haf hlf hcs
          go_wp2_with fail
          refine HAF.out.mono ?_
          clear HAF d0 d1 d2 d3
          rintro e w5 ⟨A3, c3, rfl, hF3, hb5⟩
          rw [HLF.out]
          replace h0 := h0.below hb5
          replace hC := hC.below hb5
          replace hr := hr.below hb5
          have hz5 := hb5.size
          replace ht := below_then ht hb5 ht.size
          rw [HB2.out] at hF3
          rw [HU2.out]
          clear hF hb5
          obtain ⟨d0, d1, d2, d3⟩ := hC.two
          have hlr := hr.lt
          obtain ⟨v3, hv3⟩ : ∃ v3, v3 = (afterAll (bs, u) ((cubeNums gs).take (k + 1))).2 := ⟨_, rfl⟩
          rw [← hv3]
          have HV3 := Lib.hid hv3
          have HC3 : Hid (Whole ((w5.setCell ⟨w.heap.size + 1, 0, none⟩ (.slice A3 m c3)).setCell ⟨w.heap.size + 1, 1, none⟩ (.int .i64 v3)) (w.heap.size + 1) 56 #[.slice A3 m c3, .int .i64 v3]) := by
            show Whole _ _ _ _
            simpa using (hC.set_ 0 (.slice A3 m c3)).set_ 1 (.int .i64 v3)
          have HF3 := Lib.hid ((hF3.set_out (b := w.heap.size + 1) (o := 0) (u := .slice A3 m c3) (.inl (by omega))).set_out (b := w.heap.size + 1) (o := 1) (u := .int .i64 v3) (.inl (by omega)))
          have H03 := Lib.hid ((h0.off (b := w.heap.size + 1) (o := 0) (u := .slice A3 m c3) (by omega)).off (b := w.heap.size + 1) (o := 1) (u := .int .i64 v3) (by omega))
          have HR3 := Lib.hid ((hr.off (b := w.heap.size + 1) (o := 0) (u := .slice A3 m c3) (by omega)).off (b := w.heap.size + 1) (o := 1) (u := .int .i64 v3) (by omega))
          have HT3 := Lib.hid (below_set (below_set ht (b := w.heap.size + 1) (o := 0) (u := .slice A3 m c3) (by omega)) (b := w.heap.size + 1) (o := 1) (u := .int .i64 v3) (by omega))
          clear hv3 hC hF3 h0 hr ht
          go_wp2
          go_roundw
          case rel => exact ⟨k + 1, c3, _, _, A3, by omega, by go_num, (show w.heap.size + 1 + 1 + 1 ≤ w3.heap.size by omega), (show w5.heap.size ≤ _ by simp [World.setCell]), by rw [← HV3.out]; exact HC3.out, HF3.out, H03.out, HR3.out, HT3.out, fun j hj => by
            rcases Nat.lt_or_ge j k with h1 | h1
            · exact HALL.out j h1
            · obtain rfl : j = k := by omega
              exact HPK.out⟩
          case measure => simp [intOf]; omega
      · obtain rfl : k = gs.length := by omega
        have HTK : Hid ((cubeNums gs).take gs.length = cubeNums gs) := List.take_of_length_le (by have := HCL.out; omega)
        have HP : Hid (playOk n s t (bs, u) (cubeNums gs) = true) := playOk_yes (fun j hj => HALL.out j (by have := HCL.out; omega))
        rw [HTK.out] at HBK HUK
        obtain ⟨d0, d1, -, -⟩ := hC.two
        obtain ⟨r0, r1, f0, f1⟩ := hr.two
        have hlr := hr.lt
        have HFF := Lib.hid ((hF.set_out (b := w.heap.size + 1 + 1) (o := 0) (u := .slice A1 m c1) (.inl (by omega))).set_out (b := w.heap.size + 1 + 1) (o := 1) (u := .int .i64 uk) (.inl (by omega)))
        clear hr hC h0 hF
        go_wp2
        refine bodyPost_ret (v := .tuple #[.agg #[.slice A1 m c1, .int .i64 uk], .bool true]) (by simp [results, Try.results93, go_sem, r0, r1]) rfl ⟨.inl ⟨HP.out, A1, c1, by rw [← HUK.out], ?_⟩, below_set (below_set ht (by omega)) (by omega)⟩
        rw [← HBK.out]
        exact HFF.out.more (by omega) (by simpa [World.setCell] using hhi)
end Go.Proofs.Ytifaadjbkbdbnaa

namespace Go.Proofs.Ytifaadjbkbdbnaa
open Go.RowKit

/-- Is everybody over? -/
def allOver (bs : List Bool) : Bool := bs.all fun b => b
theorem allOver_no {bs : List Bool} {k : Nat} (hk : k < bs.length) (h : bs[k] = false) : allOver bs = false := by
  rw [allOver, List.all_eq_false]
  exact ⟨bs[k], List.getElem_mem hk, by rw [h]; simp⟩
theorem allOver_yes {bs : List Bool} (h : ∀ k (hk : k < bs.length), bs[k] = true) : allOver bs = true := by
  rw [allOver, List.all_eq_true]
  intro x hx
  obtain ⟨k, hk, rfl⟩ := List.getElem_of_mem hx
  exact h k hk

set_option maxHeartbeats 800000 in
theorem toOver_any (B : Option Addr) (m d : Nat) (bs : List Bool) (u : Int) (w : World) (hB : Holds w B (bits bs)) (hy : bs.length = m) (hm : m ≤ 9223372036854775807) :
    Calls Try.prog 127 #[.agg #[.slice B m d, .int .i64 u]] w fun e w' => e = .returned (.bool (allOver bs)) ∧ Below w.heap.size w w' := by
  subst hy
  have hB2 := hB.alloc (.cells #[.slice B bs.length d, .int .i64 u] 56)
  go_enter Try.func127, Try.ntmps127
  go_wp2
  go_loop [8] (fun i => ∃ k : Nat, k ≤ bs.length ∧ i = .int .i64 k ∧ ∀ j (hj : j < bs.length), j < k → bs[j] = true) (fun i => bs.length - (intOf i).toNat)
  case atStart => exact ⟨0, Nat.zero_le _, rfl, fun j _ hj => absurd hj (by omega)⟩
  case round =>
    obtain ⟨k, hk, rfl, hall⟩ := hrel
    have HALL := Lib.hid hall
    clear hall
    by_cases hlt : k < bs.length
    · obtain ⟨b, o, rfl, hb, hc⟩ := hB2.look (k := k) (by rw [bits_len]; exact hlt)
      simp only [bits, List.getElem_map] at hc
      cases hv : bs[k]
      · rw [hv] at hc
        have HP := Lib.hid (allOver_no hlt hv)
        clear hv
        go_wp2
        go_ret
        exact ⟨ret_of (by rw [HP.out]; rfl), below1 w _⟩
      · rw [hv] at hc
        have HN : Hid (∀ j (hj : j < bs.length), j < k + 1 → bs[j] = true) := fun j hj hjk => by
          rcases Nat.lt_or_ge j k with h | h
          · exact HALL.out j hj h
          · obtain rfl : j = k := by omega
            exact hv
        clear hv
        go_wp2
        go_round
        case rel => exact ⟨k + 1, by omega, by go_num, HN.out⟩
        case measure => simp [intOf]; omega
    · obtain rfl : k = bs.length := by omega
      have HP := Lib.hid (allOver_yes (bs := bs) fun j hj => HALL.out j hj hj)
      go_wp2
      go_ret
      exact ⟨ret_of (by rw [HP.out]; rfl), below1 w _⟩

/-- A plan of a night. -/
noncomputable def planN (n : Nat) (s t : Int) (Gs : List (List (List Int))) : Bool := followOk n s t (falses n, 0) Gs && allOver (afterAll (falses n, 0) Gs).1
theorem planN_long {n : Nat} {s t : Int} {Gs : List (List (List Int))} (h : 30 < Gs.length) : planN n s t Gs = false := by
  have : decide (Gs.length ≤ 30) = false := by simp; omega
  rw [planN, followOk, this, Bool.false_and, Bool.false_and]
theorem planN_short {n : Nat} {s t : Int} {Gs : List (List (List Int))} (h : ¬ 30 < Gs.length) : planN n s t Gs = (playOk n s t (falses n, 0) Gs && allOver (afterAll (falses n, 0) Gs).1) := by
  have : decide (Gs.length ≤ 30) = true := by simp; omega
  rw [planN, followOk, this, Bool.true_and]

/-- What the camp behind the rounds tells. -/
def PlayCase (n : Nat) (s t : Int) (Gs : List (List (List Int))) (A1 : Option Addr) (ok : Bool) (lo hi : Nat) (w : World) : Prop :=
  (ok = false ∧ playOk n s t (falses n, 0) Gs = false) ∨ (ok = true ∧ playOk n s t (falses n, 0) Gs = true ∧ Fresh w lo hi 4 A1 (bits (afterAll (falses n, 0) Gs).1))
theorem PlayCase.alloc {n : Nat} {s t : Int} {Gs : List (List (List Int))} {A1 : Option Addr} {ok : Bool} {lo hi : Nat} {w : World} (h : PlayCase n s t Gs A1 ok lo hi w) (o : Obj) : PlayCase n s t Gs A1 ok lo hi (w.alloc o) := by
  rcases h with h | ⟨h1, h2, h3⟩
  · exact .inl h
  · exact .inr ⟨h1, h2, h3.alloc o⟩
theorem PlayCase.off {n : Nat} {s t : Int} {Gs : List (List (List Int))} {A1 : Option Addr} {ok : Bool} {lo hi : Nat} {w : World} (h : PlayCase n s t Gs A1 ok lo hi w) {b o : Nat} {u : Value} (hb : b < lo ∨ hi ≤ b) : PlayCase n s t Gs A1 ok lo hi (w.setCell ⟨b, o, none⟩ u) := by
  rcases h with h | ⟨h1, h2, h3⟩
  · exact .inl h
  · exact .inr ⟨h1, h2, h3.set_out hb⟩
theorem PlayCase.done {n : Nat} {s t : Int} {Gs : List (List (List Int))} {A1 : Option Addr} {ok : Bool} {lo hi : Nat} {w : World} (h : PlayCase n s t Gs A1 ok lo hi w) : (ok = false ∧ playOk n s t (falses n, 0) Gs = false) ∨ (ok = true ∧ playOk n s t (falses n, 0) Gs = true ∧ Holds w A1 (bits (afterAll (falses n, 0) Gs).1)) := by
  rcases h with h | ⟨h1, h2, h3⟩
  · exact .inl h
  · exact .inr ⟨h1, h2, h3.holds⟩
theorem freshOf {w : World} {g : Nat} {ty : TypeId} {cs : Array Value} (_ : Whole w g ty cs) (ty2 : TypeId) (cs2 : Array Value) : Whole (w.alloc (.cells cs2 ty2)) w.heap.size ty2 cs2 := Whole.fresh w ty2 cs2
theorem night3 {w : World} {g : Nat} {ty : TypeId} {a b c : Value} (h : Whole w g ty #[a, b, c]) : w.cell? ⟨g, 0, none⟩ = some a ∧ w.cell? ⟨g, 1, none⟩ = some b ∧ w.cell? ⟨g, 2, none⟩ = some c := h.cells3

set_option maxHeartbeats 6400000 in
set_option maxRecDepth 100000 in
set_option linter.unusedVariables false in
theorem toPlan_any (A : Option Addr) (n c : Nat) (xs : List Int) (s t : Int) (D : Option Addr) (q z : Nat) (gs : List GridV) (w : World) (hn : n ≤ 8) (hn1 : 1 ≤ n) (ht8 : t ≤ 8) (ht1 : 1 ≤ t) (hs8 : s ≤ 8) (hD : Cube w D gs) (hz : gs.length = q) (hq : q ≤ 9223372036854775807) (hsm : ∀ k (hk : k < gs.length), gs[k].n ≤ 1048576) :
    Calls Try.prog 98 #[.agg #[.slice A n c, .int .i64 s, .int .i64 t], .slice D q z] w fun e w' => e = .returned (.bool (planN n s t (cubeNums gs))) ∧ Below w.heap.size w w' := by
  subst hz
  have HCL := Lib.hid (cubeNums_len gs)
  have h0 := Whole.fresh w 48 #[.slice A n c, .int .i64 s, .int .i64 t]
  have ht := below1 w (.cells #[.slice A n c, .int .i64 s, .int .i64 t] 48)
  obtain ⟨c0, c1, c2⟩ := h0.cells3
  by_cases hl : 30 < gs.length
  · have HP := Lib.hid (planN_long (n := n) (s := s) (t := t) (Gs := cubeNums gs) (by rw [HCL.out]; exact hl))
    go_enter Try.func98, Try.ntmps98
    go_wp2
    go_ret
    exact ⟨ret_of (by rw [HP.out]; rfl), ht⟩
  have HP := Lib.hid (planN_short (n := n) (s := s) (t := t) (Gs := cubeNums gs) (by rw [HCL.out]; exact hl))
  have hmk : ∀ W : World, (Instr.makeSlice 25 (.int .i64 (n : Int)) (.int .i64 (n : Int))).run Try.prog W = .ok (.slice (some ⟨W.heap.size, 0, none⟩) n n) (W.alloc (.cells (bits (falses n)).toArray 4)) := by
    obtain ⟨i0, hi, hz0, hz1, hz2⟩ := info_parts info_bool
    intro W
    have h := run_make (P := Try.prog) W 25 4 i0 _ Try.underlying25 hi hz0 .i64 .i64 n n (by omega) (by omega) (by rw [hz2]; omega) (by omega)
    simp only [Int.toNat_natCast, hz1, made_falses] at h
    rw [h]
    rfl
  have HPLAY : Hid (∀ (g : Nat) (W : World), Cube W D gs → (∀ j x, (bits (falses n))[j]? = some x → W.cell? ⟨g, 0 + j, none⟩ = some x) → Calls Try.prog 93 #[.agg #[.slice A n c, .int .i64 s, .int .i64 t], .agg #[.slice (some ⟨g, 0, none⟩) n n, .int .i64 0], .slice D gs.length z] W (fun e w' => ∃ (A1 : Option Addr) (c1 : Nat) (v : Int) (ok : Bool), e = .returned (.tuple #[.agg #[.slice A1 n c1, .int .i64 v], .bool ok]) ∧ Below W.heap.size W w' ∧ PlayCase n s t (cubeNums gs) A1 ok W.heap.size w'.heap.size w')) := fun g W hW hc =>
    (toPlay_any A n c s t g 0 n n (falses n) 0 D gs.length z gs W hn hn1 ht8 hs8 hc (falses_len n) rfl ⟨by omega, by omega⟩ hW rfl hq hsm).mono fun e w' ⟨hcase, hb⟩ => by
      rcases hcase with ⟨h1, A1, c1, rfl, hF⟩ | ⟨h1, A1, c1, v, rfl⟩
      · exact ⟨A1, c1, _, true, rfl, hb, .inr ⟨rfl, h1, hF⟩⟩
      · exact ⟨A1, c1, v, false, rfl, hb, .inl ⟨rfl, h1⟩⟩
  have HAL : Hid (∀ Gs, (afterAll (falses n, 0) Gs).1.length = n) := fun Gs => (afterAll_len _ _).trans (falses_len n)
  go_enter Try.func98, Try.ntmps98
  go_upto_region 3 with fail
  go_cut [5, 6] (fun s5 s6 wx => ∃ (g : Nat) (A1 : Option Addr) (c1 : Nat) (v : Int) (ok : Bool), s5 = .pointer (some ⟨g, 0, none⟩) ∧ s6 = .bool ok ∧ Whole wx g 56 #[.slice A1 n c1, .int .i64 v] ∧ Below w.heap.size w wx ∧ ((ok = false ∧ playOk n s t (falses n, 0) (cubeNums gs) = false) ∨ (ok = true ∧ playOk n s t (falses n, 0) (cubeNums gs) = true ∧ Holds wx A1 (bits (afterAll (falses n, 0) (cubeNums gs)).1))))
  case first =>
    have HD1 : Hid (∀ W, Below w.heap.size w W → Cube W D gs) := fun W h => hD.below h
    clear hD hsm
    refine wp_region_held_drew (S := (fun w' => w'.cell? ⟨w.heap.size, 0, none⟩ = some (.slice A n c) ∧ w'.cell? ⟨w.heap.size, 1, none⟩ = some (.int .i64 s) ∧ w'.cell? ⟨w.heap.size, 2, none⟩ = some (.int .i64 t))) (by kernel_rfl) (night3 h0.drew) (fun hHeld => ?_)
    have hc := h0.drew
    replace ht := ht.drew
    clear c0 c1 c2 h0
    refine wpAnyH_take (i := 0) (v := ?_) rfl (by kernel_rfl) (by kernel_rfl) (by kernel_rfl) (fun _ _ _ h => h) (Or.inl ⟨rfl, ?_⟩) hHeld ?_
    rotate_left
    · intro w' hS; obtain ⟨s0, s1, s2⟩ := hS; go_simp <;> with_reducible rfl
    simp only [Act.put, List.getElem_toArray, List.getElem_cons_succ, List.getElem_cons_zero, List.setIfInBounds_toArray, List.set_cons_succ, List.set_cons_zero]
    refine wpAnyH_take (i := 1) (v := ?_) rfl (by kernel_rfl) (by kernel_rfl) (by kernel_rfl) (fun _ _ _ h => h) (Or.inl ⟨rfl, ?_⟩) hHeld ?_
    rotate_left
    · intro w' hS; obtain ⟨s0, s1, s2⟩ := hS; go_simp <;> with_reducible rfl
    simp only [Act.put, List.getElem_toArray, List.getElem_cons_succ, List.getElem_cons_zero, List.setIfInBounds_toArray, List.set_cons_succ, List.set_cons_zero]
    refine wpAnyH_take (i := 2) (v := ?_) rfl (by kernel_rfl) (by kernel_rfl) (by kernel_rfl) (fun _ _ _ h => h) (Or.inl ⟨rfl, ?_⟩) hHeld ?_
    rotate_left
    · intro w' hS; obtain ⟨s0, s1, s2⟩ := hS; go_simp <;> with_reducible rfl
    simp only [Act.put, List.getElem_toArray, List.getElem_cons_succ, List.getElem_cons_zero, List.setIfInBounds_toArray, List.set_cons_succ, List.set_cons_zero]
    refine wpAnyH_take (i := 3) (v := ?_) rfl (by kernel_rfl) (by kernel_rfl) (by kernel_rfl) (fun _ _ _ h => h) (Or.inl ⟨rfl, ?_⟩) hHeld ?_
    rotate_left
    · intro w' hS; obtain ⟨s0, s1, s2⟩ := hS; go_simp <;> with_reducible rfl
    simp only [Act.put, List.getElem_toArray, List.getElem_cons_succ, List.getElem_cons_zero, List.setIfInBounds_toArray, List.set_cons_succ, List.set_cons_zero]
    refine wpAnyH_take (i := 6) (v := ?_) rfl (by kernel_rfl) (by kernel_rfl) (by kernel_rfl) (fun _ _ _ h => h) (Or.inl ⟨rfl, ?_⟩) hHeld ?_
    rotate_left
    · intro w' hS; obtain ⟨s0, s1, s2⟩ := hS; go_simp <;> with_reducible rfl
    simp only [Act.put, List.getElem_toArray, List.getElem_cons_succ, List.getElem_cons_zero, List.setIfInBounds_toArray, List.set_cons_succ, List.set_cons_zero]
    refine wpAnyH_ready (rs := [4, 11]) (by kernel_rfl) (by simp) (AllReadyH.cons rfl (fun K hK => ?_) (AllReadyH.cons rfl (fun K hK => ?_) AllReadyH.nil))
    · go_simp
      have hM := freshOf hc 4 (bits (falses n)).toArray
      try simp only [World.size_drew, World.size_alloc] at hM
      have hMl := hM.lt
      replace ht := ht.alloc ht.size (.cells (bits (falses n)).toArray 4)
      replace hc := hc.alloc (.cells (bits (falses n)).toArray 4)
      refine hK.out _ _ (night3 hc) (fun hHeld => ?_)
      clear hK K
      try simp only [Act.put, List.getElem_toArray, List.getElem_cons_succ, List.getElem_cons_zero, List.setIfInBounds_toArray, List.set_cons_succ, List.set_cons_zero]
      refine wpAnyH_take (i := 5) (v := ?_) rfl (by kernel_rfl) (by kernel_rfl) (by kernel_rfl) (fun _ _ _ h => h) (Or.inl ⟨rfl, ?_⟩) hHeld ?_
      rotate_left
      · intro w' hS; obtain ⟨s0, s1, s2⟩ := hS; go_simp <;> with_reducible rfl
      simp only [Act.put, List.getElem_toArray, List.getElem_cons_succ, List.getElem_cons_zero, List.setIfInBounds_toArray, List.set_cons_succ, List.set_cons_zero]
      refine wpAnyH_ready (rs := [7, 11]) (by kernel_rfl) (by simp) (AllReadyH.cons rfl (fun K hK => ?_) (AllReadyH.cons rfl (fun K hK => ?_) AllReadyH.nil))
      · go_simp
        refine (HPLAY.out _ _ (HD1.out _ ht) (fun j x hj => by rw [Nat.zero_add, hM.cell j]; simpa using hj)).mono ?_
        rintro e w5 ⟨A1, c1', v, ok, rfl, hb5, hK0⟩
        have hz5 := hb5.size
        replace ht := below_then ht hb5 ht.size
        replace hc := hc.below hb5
        clear hb5 hM
        refine hK.out _ _ (night3 hc) (fun hHeld => ?_)
        clear hK K
        try simp only [Act.put, List.getElem_toArray, List.getElem_cons_succ, List.getElem_cons_zero, List.setIfInBounds_toArray, List.set_cons_succ, List.set_cons_zero]
        refine wpAnyH_take (i := 8) (v := ?_) rfl (by kernel_rfl) (by kernel_rfl) (by kernel_rfl) (fun _ _ _ h => h) (Or.inl ⟨rfl, ?_⟩) hHeld ?_
        rotate_left
        · intro w' hS; obtain ⟨s0, s1, s2⟩ := hS; go_simp <;> with_reducible rfl
        simp only [Act.put, List.getElem_toArray, List.getElem_cons_succ, List.getElem_cons_zero, List.setIfInBounds_toArray, List.set_cons_succ, List.set_cons_zero]
        refine wpAnyH_take (i := 9) (v := ?_) rfl (by kernel_rfl) (by kernel_rfl) (by kernel_rfl) (fun _ _ _ h => h) (Or.inl ⟨rfl, ?_⟩) hHeld ?_
        rotate_left
        · intro w' hS; obtain ⟨s0, s1, s2⟩ := hS; go_simp <;> with_reducible rfl
        simp only [Act.put, List.getElem_toArray, List.getElem_cons_succ, List.getElem_cons_zero, List.setIfInBounds_toArray, List.set_cons_succ, List.set_cons_zero]
        refine wpAnyH_take (i := 10) (v := ?_) rfl (by kernel_rfl) (by kernel_rfl) (by kernel_rfl) (fun _ _ _ h => h) (Or.inl ⟨rfl, ?_⟩) hHeld ?_
        rotate_left
        · intro w' hS; obtain ⟨s0, s1, s2⟩ := hS; go_simp <;> with_reducible rfl
        simp only [Act.put, List.getElem_toArray, List.getElem_cons_succ, List.getElem_cons_zero, List.setIfInBounds_toArray, List.set_cons_succ, List.set_cons_zero]
        refine wpAnyH_ready (rs := [11]) (by kernel_rfl) (by simp) (AllReadyH.cons rfl (fun K hK => ?_) AllReadyH.nil)
        go_simp
        have hc0 := hc
        have ht0 := ht
        have hx := freshOf hc 56 #[.slice none 0 0, .int .i64 0]
        try simp only [World.size_drew, World.size_alloc] at hx
        have hsz := ht.size
        replace ht := ht.alloc ht.size (.cells #[.slice none 0 0, .int .i64 0] 56)
        replace hc := hc.alloc (.cells #[.slice none 0 0, .int .i64 0] 56)
        refine hK.out _ _ (night3 hc) (fun hHeld => ?_)
        clear hK K
        try simp only [Act.put, List.getElem_toArray, List.getElem_cons_succ, List.getElem_cons_zero, List.setIfInBounds_toArray, List.set_cons_succ, List.set_cons_zero]
        refine wpAnyH_ready (rs := [12]) (by kernel_rfl) (by simp) (AllReadyH.cons rfl (fun K hK => ?_) AllReadyH.nil)
        go_simp
        refine hK.out _ _ (night3 (hc0.alloc _)) (fun hHeld => ?_)
        clear hK K
        try simp only [Act.put, List.getElem_toArray, List.getElem_cons_succ, List.getElem_cons_zero, List.setIfInBounds_toArray, List.set_cons_succ, List.set_cons_zero]
        refine wpAnyH_take (i := 13) (v := ?_) rfl (by kernel_rfl) (by kernel_rfl) (by kernel_rfl) (fun _ _ _ h => h) (Or.inl ⟨rfl, ?_⟩) hHeld ?_
        rotate_left
        · intro w' hS; obtain ⟨s0, s1, s2⟩ := hS; go_simp <;> with_reducible rfl
        simp only [Act.put, List.getElem_toArray, List.getElem_cons_succ, List.getElem_cons_zero, List.setIfInBounds_toArray, List.set_cons_succ, List.set_cons_zero]
        refine wpAnyH_done (by kernel_rfl) ?_ _
        clear hHeld
        go_wp2_with fail
        go_meet
        exact ⟨_, A1, c1', v, ok, rfl, rfl, Whole.fresh _ _ _, ht0.alloc ht0.size _, (hK0.alloc _).done⟩
      · go_simp
        have hx := freshOf hc 56 #[.slice none 0 0, .int .i64 0]
        try simp only [World.size_drew, World.size_alloc] at hx
        have hsz := ht.size
        replace ht := ht.alloc ht.size (.cells #[.slice none 0 0, .int .i64 0] 56)
        replace hc := hc.alloc (.cells #[.slice none 0 0, .int .i64 0] 56)
        replace hM := hM.alloc (.cells #[.slice none 0 0, .int .i64 0] 56)
        refine hK.out _ _ (night3 hc) (fun hHeld => ?_)
        clear hK K
        try simp only [Act.put, List.getElem_toArray, List.getElem_cons_succ, List.getElem_cons_zero, List.setIfInBounds_toArray, List.set_cons_succ, List.set_cons_zero]
        refine wpAnyH_ready (rs := [7]) (by kernel_rfl) (by simp) (AllReadyH.cons rfl (fun K hK => ?_) AllReadyH.nil)
        go_simp
        have hxl := hx.lt
        refine (HPLAY.out _ _ (HD1.out _ ht) (fun j x hj => by rw [Nat.zero_add, hM.cell j]; simpa using hj)).mono ?_
        rintro e w5 ⟨A1, c1', v, ok, rfl, hb5, hK0⟩
        have hz5 := hb5.size
        replace ht := below_then ht hb5 ht.size
        replace hc := hc.below hb5
        replace hx := hx.below hb5
        obtain ⟨x0, x1, x2, x3⟩ := hx.two
        have hK1 := hK0
        clear hb5 hM
        refine hK.out _ _ (night3 hc) (fun hHeld => ?_)
        clear hK K
        try simp only [Act.put, List.getElem_toArray, List.getElem_cons_succ, List.getElem_cons_zero, List.setIfInBounds_toArray, List.set_cons_succ, List.set_cons_zero]
        refine wpAnyH_take (i := 8) (v := ?_) rfl (by kernel_rfl) (by kernel_rfl) (by kernel_rfl) (fun _ _ _ h => h) (Or.inl ⟨rfl, ?_⟩) hHeld ?_
        rotate_left
        · intro w' hS; obtain ⟨s0, s1, s2⟩ := hS; go_simp <;> with_reducible rfl
        simp only [Act.put, List.getElem_toArray, List.getElem_cons_succ, List.getElem_cons_zero, List.setIfInBounds_toArray, List.set_cons_succ, List.set_cons_zero]
        refine wpAnyH_take (i := 9) (v := ?_) rfl (by kernel_rfl) (by kernel_rfl) (by kernel_rfl) (fun _ _ _ h => h) (Or.inl ⟨rfl, ?_⟩) hHeld ?_
        rotate_left
        · intro w' hS; obtain ⟨s0, s1, s2⟩ := hS; go_simp <;> with_reducible rfl
        simp only [Act.put, List.getElem_toArray, List.getElem_cons_succ, List.getElem_cons_zero, List.setIfInBounds_toArray, List.set_cons_succ, List.set_cons_zero]
        refine wpAnyH_take (i := 10) (v := ?_) rfl (by kernel_rfl) (by kernel_rfl) (by kernel_rfl) (fun _ _ _ h => h) (Or.inl ⟨rfl, ?_⟩) hHeld ?_
        rotate_left
        · intro w' hS; obtain ⟨s0, s1, s2⟩ := hS; go_simp <;> with_reducible rfl
        simp only [Act.put, List.getElem_toArray, List.getElem_cons_succ, List.getElem_cons_zero, List.setIfInBounds_toArray, List.set_cons_succ, List.set_cons_zero]
        refine wpAnyH_ready (rs := [12]) (by kernel_rfl) (by simp) (AllReadyH.cons rfl (fun K hK => ?_) AllReadyH.nil)
        go_simp
        have hcl := hc.lt
        try simp only [World.size_drew, World.size_alloc] at hxl
        refine hK.out _ _ (night3 ((hc.off (by first | omega | (simp; done) | (simp; omega))).off (by first | omega | (simp; done) | (simp; omega)))) (fun hHeld => ?_)
        clear hK K
        try simp only [Act.put, List.getElem_toArray, List.getElem_cons_succ, List.getElem_cons_zero, List.setIfInBounds_toArray, List.set_cons_succ, List.set_cons_zero]
        refine wpAnyH_take (i := 13) (v := ?_) rfl (by kernel_rfl) (by kernel_rfl) (by kernel_rfl) (fun _ _ _ h => h) (Or.inl ⟨rfl, ?_⟩) hHeld ?_
        rotate_left
        · intro w' hS; obtain ⟨s0, s1, s2⟩ := hS; go_simp <;> with_reducible rfl
        simp only [Act.put, List.getElem_toArray, List.getElem_cons_succ, List.getElem_cons_zero, List.setIfInBounds_toArray, List.set_cons_succ, List.set_cons_zero]
        refine wpAnyH_done (by kernel_rfl) ?_ _
        clear hHeld
        go_wp2_with fail
        go_meet
        exact ⟨_, A1, c1', v, ok, rfl, rfl, by simpa using (hx.set_ 0 (.slice A1 n c1')).set_ 1 (.int .i64 v), below_set (below_set ht (by first | omega | (simp; done) | (simp; omega))) (by first | omega | (simp; done) | (simp; omega)), ((hK1.off (.inl (by first | omega | (simp; done) | (simp; omega)))).off (.inl (by first | omega | (simp; done) | (simp; omega)))).done⟩
    · go_simp
      have hx := freshOf hc 56 #[.slice none 0 0, .int .i64 0]
      try simp only [World.size_drew, World.size_alloc] at hx
      have hsz := ht.size
      replace ht := ht.alloc ht.size (.cells #[.slice none 0 0, .int .i64 0] 56)
      replace hc := hc.alloc (.cells #[.slice none 0 0, .int .i64 0] 56)
      refine hK.out _ _ (night3 hc) (fun hHeld => ?_)
      clear hK K
      try simp only [Act.put, List.getElem_toArray, List.getElem_cons_succ, List.getElem_cons_zero, List.setIfInBounds_toArray, List.set_cons_succ, List.set_cons_zero]
      refine wpAnyH_ready (rs := [4]) (by kernel_rfl) (by simp) (AllReadyH.cons rfl (fun K hK => ?_) AllReadyH.nil)
      go_simp
      have hM := freshOf hc 4 (bits (falses n)).toArray
      try simp only [World.size_drew, World.size_alloc] at hM
      have hMl := hM.lt
      replace ht := ht.alloc ht.size (.cells (bits (falses n)).toArray 4)
      replace hc := hc.alloc (.cells (bits (falses n)).toArray 4)
      replace hx := hx.alloc (.cells (bits (falses n)).toArray 4)
      refine hK.out _ _ (night3 hc) (fun hHeld => ?_)
      clear hK K
      try simp only [Act.put, List.getElem_toArray, List.getElem_cons_succ, List.getElem_cons_zero, List.setIfInBounds_toArray, List.set_cons_succ, List.set_cons_zero]
      refine wpAnyH_take (i := 5) (v := ?_) rfl (by kernel_rfl) (by kernel_rfl) (by kernel_rfl) (fun _ _ _ h => h) (Or.inl ⟨rfl, ?_⟩) hHeld ?_
      rotate_left
      · intro w' hS; obtain ⟨s0, s1, s2⟩ := hS; go_simp <;> with_reducible rfl
      simp only [Act.put, List.getElem_toArray, List.getElem_cons_succ, List.getElem_cons_zero, List.setIfInBounds_toArray, List.set_cons_succ, List.set_cons_zero]
      refine wpAnyH_ready (rs := [7]) (by kernel_rfl) (by simp) (AllReadyH.cons rfl (fun K hK => ?_) AllReadyH.nil)
      go_simp
      have hxl := hx.lt
      refine (HPLAY.out _ _ (HD1.out _ ht) (fun j x hj => by rw [Nat.zero_add, hM.cell j]; simpa using hj)).mono ?_
      rintro e w5 ⟨A1, c1', v, ok, rfl, hb5, hK0⟩
      have hz5 := hb5.size
      replace ht := below_then ht hb5 ht.size
      replace hc := hc.below hb5
      replace hx := hx.below hb5
      obtain ⟨x0, x1, x2, x3⟩ := hx.two
      have hK1 := hK0
      clear hb5 hM
      refine hK.out _ _ (night3 hc) (fun hHeld => ?_)
      clear hK K
      try simp only [Act.put, List.getElem_toArray, List.getElem_cons_succ, List.getElem_cons_zero, List.setIfInBounds_toArray, List.set_cons_succ, List.set_cons_zero]
      refine wpAnyH_take (i := 8) (v := ?_) rfl (by kernel_rfl) (by kernel_rfl) (by kernel_rfl) (fun _ _ _ h => h) (Or.inl ⟨rfl, ?_⟩) hHeld ?_
      rotate_left
      · intro w' hS; obtain ⟨s0, s1, s2⟩ := hS; go_simp <;> with_reducible rfl
      simp only [Act.put, List.getElem_toArray, List.getElem_cons_succ, List.getElem_cons_zero, List.setIfInBounds_toArray, List.set_cons_succ, List.set_cons_zero]
      refine wpAnyH_take (i := 9) (v := ?_) rfl (by kernel_rfl) (by kernel_rfl) (by kernel_rfl) (fun _ _ _ h => h) (Or.inl ⟨rfl, ?_⟩) hHeld ?_
      rotate_left
      · intro w' hS; obtain ⟨s0, s1, s2⟩ := hS; go_simp <;> with_reducible rfl
      simp only [Act.put, List.getElem_toArray, List.getElem_cons_succ, List.getElem_cons_zero, List.setIfInBounds_toArray, List.set_cons_succ, List.set_cons_zero]
      refine wpAnyH_take (i := 10) (v := ?_) rfl (by kernel_rfl) (by kernel_rfl) (by kernel_rfl) (fun _ _ _ h => h) (Or.inl ⟨rfl, ?_⟩) hHeld ?_
      rotate_left
      · intro w' hS; obtain ⟨s0, s1, s2⟩ := hS; go_simp <;> with_reducible rfl
      simp only [Act.put, List.getElem_toArray, List.getElem_cons_succ, List.getElem_cons_zero, List.setIfInBounds_toArray, List.set_cons_succ, List.set_cons_zero]
      refine wpAnyH_ready (rs := [12]) (by kernel_rfl) (by simp) (AllReadyH.cons rfl (fun K hK => ?_) AllReadyH.nil)
      go_simp
      have hcl := hc.lt
      try simp only [World.size_drew, World.size_alloc] at hxl
      refine hK.out _ _ (night3 ((hc.off (by first | omega | (simp; done) | (simp; omega))).off (by first | omega | (simp; done) | (simp; omega)))) (fun hHeld => ?_)
      clear hK K
      try simp only [Act.put, List.getElem_toArray, List.getElem_cons_succ, List.getElem_cons_zero, List.setIfInBounds_toArray, List.set_cons_succ, List.set_cons_zero]
      refine wpAnyH_take (i := 13) (v := ?_) rfl (by kernel_rfl) (by kernel_rfl) (by kernel_rfl) (fun _ _ _ h => h) (Or.inl ⟨rfl, ?_⟩) hHeld ?_
      rotate_left
      · intro w' hS; obtain ⟨s0, s1, s2⟩ := hS; go_simp <;> with_reducible rfl
      simp only [Act.put, List.getElem_toArray, List.getElem_cons_succ, List.getElem_cons_zero, List.setIfInBounds_toArray, List.set_cons_succ, List.set_cons_zero]
      refine wpAnyH_done (by kernel_rfl) ?_ _
      clear hHeld
      go_wp2_with fail
      go_meet
      exact ⟨_, A1, c1', v, ok, rfl, rfl, by simpa using (hx.set_ 0 (.slice A1 n c1')).set_ 1 (.int .i64 v), below_set (below_set ht (by first | omega | (simp; done) | (simp; omega))) (by first | omega | (simp; done) | (simp; omega)), ((hK1.off (.inl (by first | omega | (simp; done) | (simp; omega)))).off (.inl (by first | omega | (simp; done) | (simp; omega)))).done⟩

  case rest =>
    obtain ⟨g, A1, c1, v, ok, rfl, rfl, hg, hb, hcase⟩ := hcut
    obtain ⟨d0, d1, -, -⟩ := hg.two
    rcases hcase with ⟨rfl, hp⟩ | ⟨rfl, hp, hh⟩
    · have HQ := Lib.hid (HP.out.trans (by rw [hp, Bool.false_and]))
      clear hp hg
      go_wp2
      go_ret
      exact ⟨ret_of (by rw [HQ.out]; rfl), hb⟩
    · have HQ := Lib.hid (HP.out.trans (by rw [hp, Bool.true_and]))
      have HH := Lib.hid hh
      clear hp hg hh
      go_wp2_with fail
      refine (toOver_any A1 n _ (afterAll (falses n, 0) (cubeNums gs)).1 v _ HH.out (HAL.out _) (by omega)).mono ?_
      rintro e w3 ⟨rfl, hb3⟩
      go_wp2
      go_ret
      exact ⟨ret_of (by rw [HQ.out]; rfl), below_then hb hb3 hb.size⟩
end Go.Proofs.Ytifaadjbkbdbnaa

namespace Go.Proofs.Ytifaadjbkbdbnaa
open Go.RowKit

noncomputable def nightOk (xs : List Int) (s t : Int) (Gs : List (List (List Int))) : Bool := isNight xs s t && planN xs.length s t Gs
noncomputable def nightTime (xs : List Int) (s t : Int) (Gs : List (List (List Int))) : Int := if nightOk xs s t Gs then timeAll xs Gs else 0
section
variable {xs : List Int} {s t : Int} {Gs : List (List (List Int))}
theorem nightTime_no (h : nightOk xs s t Gs = false) : nightTime xs s t Gs = 0 := by rw [nightTime, h]; rfl
theorem nightTime_yes (h : nightOk xs s t Gs = true) : nightTime xs s t Gs = timeAll xs Gs := by rw [nightTime, h]; rfl
theorem plan_rounds {n : Nat} (h : planN n s t Gs = true) : Gs.length ≤ 30 ∧ ∀ k (hk : k < Gs.length), OkTo n s Gs[k] Gs[k].length := by
  rw [planN, followOk, Bool.and_eq_true, Bool.and_eq_true, decide_eq_true_eq] at h
  obtain ⟨⟨h1, h2⟩, -⟩ := h
  refine ⟨h1, fun k hk => ?_⟩
  rw [playOk, List.all_eq_true] at h2
  have h3 := h2 k (List.mem_range.2 hk)
  rw [playAt_get hk, canG, Bool.and_eq_true] at h3
  exact (groups_ok h3.1).2
end
theorem trues_same {n : Nat} {be : List Bool} (hl : be.length = n) : sameBits be (trues n) = allOver be := by
  by_cases h : be = trues n
  · rw [sameBits_yes h, h]
    symm
    rw [allOver, List.all_eq_true]
    intro x hx
    exact List.eq_of_mem_replicate hx
  · rw [sameBits_no h]
    symm
    cases ha : allOver be
    · rfl
    · exfalso
      apply h
      rw [allOver, List.all_eq_true] at ha
      exact List.eq_replicate_iff.2 ⟨hl, ha⟩

set_option maxHeartbeats 3200000 in
set_option maxRecDepth 100000 in
set_option linter.unusedVariables false in
theorem specNightTime_any (A : Option Addr) (n c : Nat) (xs : List Int) (s t : Int) (D : Option Addr) (q z : Nat) (gs : List GridV) (w : World) (hA : Holds w A (nums xs)) (hx : xs.length = n) (hn : n ≤ 9223372036854775807) (hD : Cube w D gs) (hz : gs.length = q) (hq : q ≤ 9223372036854775807) (hsm : ∀ k (hk : k < gs.length), gs[k].n ≤ 1048576) :
    Calls Try.prog 60 #[.agg #[.slice A n c, .int .i64 s, .int .i64 t], .slice D q z] w fun e w' => e = .returned (.tuple #[.int .i64 (nightTime xs s t (cubeNums gs)), .bool (nightOk xs s t (cubeNums gs))]) ∧ Below w.heap.size w w' := by
  subst hz
  have HX := Lib.hid hx
  have HCL := Lib.hid (cubeNums_len gs)
  have HSM := Lib.hid hsm
  have h0 := Whole.fresh w 48 #[.slice A n c, .int .i64 s, .int .i64 t]
  have ht := below1 w (.cells #[.slice A n c, .int .i64 s, .int .i64 t] 48)
  obtain ⟨c0, c1, c2⟩ := h0.cells3
  clear hsm
  cases hp : isNight xs s t
  · have HO : Hid (nightOk xs s t (cubeNums gs) = false) := by show _ = _; rw [nightOk, hp, Bool.false_and]
    have HPP := Lib.hid hp
    clear hp hx
    go_enter Try.func60, Try.ntmps60
    go_wp2_with fail
    refine (toGood_any A _ c xs s t _ (by exact hA.below ht) HX.out hn).mono ?_
    rintro e w1 ⟨rfl, hb⟩
    rw [HPP.out]
    replace ht := below_then ht hb ht.size
    go_wp2
    go_ret2
    exact ⟨by rw [nightTime_no HO.out, HO.out]; rfl, ht⟩
  have HPP := Lib.hid hp
  have hok := isNight_ok hp
  have hn6 := hok.six
  have hn1 := hok.one
  have htt := hok.torches
  have hss := hok.seats
  have HTI : Hid (∀ y ∈ xs, 1 ≤ y ∧ y ≤ 1000) := hok.times
  have HR : Hid (nightOk xs s t (cubeNums gs) = planN n s t (cubeNums gs)) := by show _ = _; rw [nightOk, hp, Bool.true_and, hx]
  rw [hx] at hn6 hn1
  clear hp hok hx
  cases hg : planN n s t (cubeNums gs)
  · have HO := Lib.hid (HR.out.trans hg)
    have HGG := Lib.hid hg
    clear hg
    go_enter Try.func60, Try.ntmps60
    go_wp2_with fail
    refine (toGood_any A _ c xs s t _ (by exact hA.below ht) HX.out hn).mono ?_
    rintro e w1 ⟨rfl, hb⟩
    rw [HPP.out]
    replace ht := below_then ht hb ht.size
    replace h0 := h0.below hb
    clear c0 c1 c2 hb
    obtain ⟨c0, c1, c2⟩ := h0.cells3
    go_wp2_with fail
    refine (toPlan_any A n c xs s t D _ z gs _ (by omega) hn1 (by omega) (by omega) (by omega) (by exact hD.below ht) rfl hq HSM.out).mono ?_
    rintro e w2 ⟨rfl, hb⟩
    rw [HGG.out]
    replace ht := below_then ht hb ht.size
    clear hb c0 c1 c2
    go_wp2
    go_ret2
    exact ⟨by rw [nightTime_no HO.out, HO.out]; rfl, ht⟩
  have HO := Lib.hid (HR.out.trans hg)
  have HGG := Lib.hid hg
  have hpr := plan_rounds hg
  have hg30 : gs.length ≤ 30 := by have := hpr.1; have := HCL.out; omega
  have HROK := Lib.hid hpr.2
  clear hg hpr
  go_enter Try.func60, Try.ntmps60
  go_wp2_with fail
  refine (toGood_any A _ c xs s t _ (by exact hA.below ht) HX.out hn).mono ?_
  rintro e w1 ⟨rfl, hb⟩
  rw [HPP.out]
  replace ht := below_then ht hb ht.size
  replace h0 := h0.below hb
  clear c0 c1 c2 hb
  obtain ⟨c0, c1, c2⟩ := h0.cells3
  go_wp2_with fail
  refine (toPlan_any A n c xs s t D _ z gs _ (by omega) hn1 (by omega) (by omega) (by omega) (by exact hD.below ht) rfl hq HSM.out).mono ?_
  rintro e w2 ⟨rfl, hb⟩
  rw [HGG.out]
  replace ht := below_then ht hb ht.size
  replace h0 := h0.below hb
  have H0 := Lib.hid h0
  have HT := Lib.hid ht
  clear hb c0 c1 c2 h0 ht
  go_wp2
  go_loopw [6, 20] (fun v i wr => ∃ k : Nat, k ≤ gs.length ∧ i = .int .i64 k ∧ v = .int .i64 (timeAll xs ((cubeNums gs).take k)) ∧ Whole wr w.heap.size 48 #[.slice A n c, .int .i64 s, .int .i64 t] ∧ Below w.heap.size w wr) (fun _ i _ => gs.length - (intOf i).toNat)
  case atStart => exact ⟨0, Nat.zero_le _, rfl, rfl, H0.out, HT.out⟩
  case round =>
    obtain ⟨k, hk, rfl, rfl, h0, ht⟩ := hrel
    clear H0 HT
    have hbd := timeAll_bd HTI.out ((cubeNums gs).take k)
    have hsum0 := hbd.1
    have hsum1 : timeAll xs ((cubeNums gs).take k) ≤ 30000 := by have := hbd.2; rw [List.length_take] at this; omega
    obtain ⟨sk, hsk⟩ : ∃ sk, sk = timeAll xs ((cubeNums gs).take k) := ⟨_, rfl⟩
    rw [← hsk] at hsum0 hsum1 ⊢
    have HSK := Lib.hid hsk
    clear hbd hsk
    by_cases hlt : k < gs.length
    · have hkl : k < (cubeNums gs).length := by have := HCL.out; omega
      obtain ⟨b1, o1, rfl, hbl1, hc, hgr⟩ := (hD.below ht).look hlt
      have HGT := Lib.hid (cubeNums_get hlt)
      have HTN := Lib.hid (timeAll_next (xs := xs) hkl)
      rw [HGT.out, ← HSK.out] at HTN
      have hro := HROK.out k hkl
      rw [HGT.out, rowNums_len] at hro
      have hsl := slowG_bd HTI.out (flat (rowNums gs[k].rs))
      have hsl0 := hsl.1
      have hsl1 := hsl.2
      have htm := toTime_any A n c xs s t gs[k].A gs[k].n gs[k].c gs[k].rs wr (hA.below ht) HX.out hgr.1 hgr.2.1 hgr.2.2 (by omega) hro
      obtain ⟨tm, htme⟩ : ∃ tm, tm = slowOf xs (flat (rowNums gs[k].rs)) := ⟨_, rfl⟩
      rw [← htme] at htm hsl0 hsl1 HTN
      have HTM := Lib.hid htm
      obtain ⟨c0, c1, c2⟩ := h0.cells3
      clear hgr hro hsl htm htme
      go_wp2_with fail
      refine HTM.out.mono ?_
      clear HTM c0 c1 c2
      rintro e w3 ⟨rfl, hb⟩
      have HH := Lib.hid (h0.below hb)
      have HT2 := Lib.hid (below_then ht hb ht.size)
      clear hb h0 ht hc
      go_wp2
      go_roundw
      case rel => exact ⟨k + 1, by omega, by go_num, by rw [HTN.out], HH.out, HT2.out⟩
      case measure => simp [intOf]; omega
    · obtain rfl : k = gs.length := by omega
      have HTK : Hid (sk = timeAll xs (cubeNums gs)) := by show _ = _; rw [HSK.out, List.take_of_length_le (by have := HCL.out; omega)]
      go_wp2
      go_ret2
      exact ⟨by rw [nightTime_yes HO.out, HO.out, ← HTK.out]; rfl, ht⟩

set_option maxHeartbeats 6400000 in
set_option maxRecDepth 100000 in
set_option linter.unusedVariables false in
theorem implNightTime_any (A : Option Addr) (n c : Nat) (xs : List Int) (s t : Int) (D : Option Addr) (q z : Nat) (gs : List GridV) (w : World) (hA : Holds w A (nums xs)) (hx : xs.length = n) (hn : n ≤ 9223372036854775807) (hD : Cube w D gs) (hz : gs.length = q) (hq : q ≤ 9223372036854775807) :
    Calls Try.prog 61 #[.agg #[.slice A n c, .int .i64 s, .int .i64 t], .slice D q z] w fun e w' => e = .returned (.tuple #[.int .i64 (nightTime xs s t (cubeNums gs)), .bool (nightOk xs s t (cubeNums gs))]) ∧ Below w.heap.size w w' := by
  subst hz
  have HX := Lib.hid hx
  have HCL := Lib.hid (cubeNums_len gs)
  have h0 := Whole.fresh w 48 #[.slice A n c, .int .i64 s, .int .i64 t]
  have ht := below1 w (.cells #[.slice A n c, .int .i64 s, .int .i64 t] 48)
  obtain ⟨c0, c1, c2⟩ := h0.cells3
  cases hp : isNight xs s t
  · have HO : Hid (nightOk xs s t (cubeNums gs) = false) := by show _ = _; rw [nightOk, hp, Bool.false_and]
    have HPP := Lib.hid hp
    clear hp hx
    go_enter Try.func61, Try.ntmps61
    go_wp2_with fail
    refine (implIsNight_any A _ c xs s t _ (by exact hA.below ht) HX.out hn).mono ?_
    rintro e w1 ⟨rfl, hb⟩
    rw [HPP.out]
    replace ht := below_then ht hb ht.size
    go_wp2
    go_ret2
    exact ⟨by rw [nightTime_no HO.out, HO.out]; rfl, ht⟩
  have HPP := Lib.hid hp
  have hok := isNight_ok hp
  have hn6 := hok.six
  have hn1 := hok.one
  have htt := hok.torches
  have HTI : Hid (∀ y ∈ xs, 1 ≤ y ∧ y ≤ 1000) := hok.times
  have HR : Hid (nightOk xs s t (cubeNums gs) = (followOk n s t (falses n, 0) (cubeNums gs) && allOver (afterAll (falses n, 0) (cubeNums gs)).1)) := by show _ = _; rw [nightOk, hp, Bool.true_and, hx, planN]
  rw [hx] at hn6 hn1
  clear hp hok hx
  have hfo := fun W (hW : Below w.heap.size w W) => follow9_any A n c xs s t (falses n) (fun i => (falses n).getD i false) rfl 0 D gs.length z gs W (hA.below hW) HX.out (by omega) (falses_len n) (by omega) ⟨by omega, by omega⟩ HTI.out (hD.below hW) rfl hq
  have hz9 : si9 (fun i => (falses n).getD i false) 0 = #[.bool false, .bool false, .bool false, .bool false, .bool false, .bool false, .bool false, .bool false, .int .i64 0] := by
    rw [← si9_of, site_falses]; rfl
  rw [hz9] at hfo
  have HFO := Lib.hid hfo
  clear hfo hz9
  go_enter Try.func61, Try.ntmps61
  go_wp2_with fail
  refine (implIsNight_any A _ c xs s t _ (by exact hA.below ht) HX.out hn).mono ?_
  rintro e w1 ⟨rfl, hb⟩
  rw [HPP.out]
  replace ht := below_then ht hb ht.size
  replace h0 := h0.below hb
  clear c0 c1 c2 hb
  obtain ⟨c0, c1, c2⟩ := h0.cells3
  go_wp2_with fail
  refine (HFO.out _ ht).mono ?_
  clear HFO
  rintro e w2 ⟨⟨hg, rfl⟩ | ⟨hg, rfl⟩, hb⟩
  rotate_left
  · have HO := Lib.hid (HR.out.trans (by rw [hg, Bool.false_and]))
    replace ht := below_then ht hb ht.size
    clear hg hb c0 c1 c2 h0
    have ht2 := ht.alloc ht.size (.cells (siteCells [] 0) 103)
    unfold siteCells at ht2
    unfold siteCells
    go_wp2_with fail
    refine wp_region_held_drew (S := (fun _ => True)) (by kernel_rfl) trivial (fun hHeld => ?_)
    refine wpAnyH_take (i := 0) (v := ?_) rfl (by kernel_rfl) (by kernel_rfl) (by kernel_rfl) (fun _ _ _ h => h) (Or.inl ⟨rfl, ?_⟩) hHeld ?_
    rotate_left
    · intro w' hS; skip; go_simp <;> with_reducible rfl
    simp only [Act.put, List.getElem_toArray, List.getElem_cons_succ, List.getElem_cons_zero, List.setIfInBounds_toArray, List.set_cons_succ, List.set_cons_zero]
    refine wpAnyH_take (i := 1) (v := ?_) rfl (by kernel_rfl) (by kernel_rfl) (by kernel_rfl) (fun _ _ _ h => h) (Or.inl ⟨rfl, ?_⟩) hHeld ?_
    rotate_left
    · intro w' hS; skip; go_simp <;> with_reducible rfl
    simp only [Act.put, List.getElem_toArray, List.getElem_cons_succ, List.getElem_cons_zero, List.setIfInBounds_toArray, List.set_cons_succ, List.set_cons_zero]
    refine wpAnyH_take (i := 2) (v := ?_) rfl (by kernel_rfl) (by kernel_rfl) (by kernel_rfl) (fun _ _ _ h => h) (Or.inl ⟨rfl, ?_⟩) hHeld ?_
    rotate_left
    · intro w' hS; skip; go_simp <;> with_reducible rfl
    simp only [Act.put, List.getElem_toArray, List.getElem_cons_succ, List.getElem_cons_zero, List.setIfInBounds_toArray, List.set_cons_succ, List.set_cons_zero]
    refine wpAnyH_take (i := 3) (v := undef) rfl (by kernel_rfl) (by kernel_rfl) (by kernel_rfl) (fun _ _ _ h => h) (Or.inr ⟨by simp [Region.wanted, yielded], rfl⟩) hHeld ?_
    simp only [Act.put, List.getElem_toArray, List.getElem_cons_succ, List.getElem_cons_zero, List.setIfInBounds_toArray, List.set_cons_succ, List.set_cons_zero]
    refine wpAnyH_take (i := 4) (v := undef) rfl (by kernel_rfl) (by kernel_rfl) (by kernel_rfl) (fun _ _ _ h => h) (Or.inr ⟨by simp [Region.wanted, yielded], rfl⟩) hHeld ?_
    simp only [Act.put, List.getElem_toArray, List.getElem_cons_succ, List.getElem_cons_zero, List.setIfInBounds_toArray, List.set_cons_succ, List.set_cons_zero]
    refine wpAnyH_take (i := 5) (v := undef) rfl (by kernel_rfl) (by kernel_rfl) (by kernel_rfl) (fun _ _ _ h => h) (Or.inr ⟨by simp [Region.wanted, yielded], rfl⟩) hHeld ?_
    simp only [Act.put, List.getElem_toArray, List.getElem_cons_succ, List.getElem_cons_zero, List.setIfInBounds_toArray, List.set_cons_succ, List.set_cons_zero]
    refine wpAnyH_take (i := 6) (v := undef) rfl (by kernel_rfl) (by kernel_rfl) (by kernel_rfl) (fun _ _ _ h => h) (Or.inr ⟨by simp [Region.wanted, yielded], rfl⟩) hHeld ?_
    simp only [Act.put, List.getElem_toArray, List.getElem_cons_succ, List.getElem_cons_zero, List.setIfInBounds_toArray, List.set_cons_succ, List.set_cons_zero]
    refine wpAnyH_take (i := 7) (v := undef) rfl (by kernel_rfl) (by kernel_rfl) (by kernel_rfl) (fun _ _ _ h => h) (Or.inr ⟨by simp [Region.wanted, yielded], rfl⟩) hHeld ?_
    simp only [Act.put, List.getElem_toArray, List.getElem_cons_succ, List.getElem_cons_zero, List.setIfInBounds_toArray, List.set_cons_succ, List.set_cons_zero]
    refine wpAnyH_take (i := 8) (v := undef) rfl (by kernel_rfl) (by kernel_rfl) (by kernel_rfl) (fun _ _ _ h => h) (Or.inr ⟨by simp [Region.wanted, yielded], rfl⟩) hHeld ?_
    simp only [Act.put, List.getElem_toArray, List.getElem_cons_succ, List.getElem_cons_zero, List.setIfInBounds_toArray, List.set_cons_succ, List.set_cons_zero]
    refine wpAnyH_take (i := 9) (v := undef) rfl (by kernel_rfl) (by kernel_rfl) (by kernel_rfl) (fun _ _ _ h => h) (Or.inr ⟨by simp [Region.wanted, yielded], rfl⟩) hHeld ?_
    simp only [Act.put, List.getElem_toArray, List.getElem_cons_succ, List.getElem_cons_zero, List.setIfInBounds_toArray, List.set_cons_succ, List.set_cons_zero]
    refine wpAnyH_take (i := 10) (v := undef) rfl (by kernel_rfl) (by kernel_rfl) (by kernel_rfl) (fun _ _ _ h => h) (Or.inr ⟨by simp [Region.wanted, yielded], rfl⟩) hHeld ?_
    simp only [Act.put, List.getElem_toArray, List.getElem_cons_succ, List.getElem_cons_zero, List.setIfInBounds_toArray, List.set_cons_succ, List.set_cons_zero]
    refine wpAnyH_take (i := 11) (v := ?_) rfl (by kernel_rfl) (by kernel_rfl) (by kernel_rfl) (fun _ _ _ h => h) (Or.inl ⟨rfl, ?_⟩) hHeld ?_
    rotate_left
    · intro w' hS; skip; go_simp <;> with_reducible rfl
    simp only [Act.put, List.getElem_toArray, List.getElem_cons_succ, List.getElem_cons_zero, List.setIfInBounds_toArray, List.set_cons_succ, List.set_cons_zero]
    refine wpAnyH_done (by kernel_rfl) ?_ _
    clear hHeld
    go_wp2
    go_ret2
    exact ⟨by rw [nightTime_no HO.out, HO.out]; rfl, ht2.drew⟩
  have hel : (afterAll (falses n, 0) (cubeNums gs)).1.length = n := (afterAll_len _ _).trans (falses_len n)
  obtain ⟨be, hbe⟩ : ∃ be, be = (afterAll (falses n, 0) (cubeNums gs)).1 := ⟨_, rfl⟩
  obtain ⟨ue, hue⟩ : ∃ ue, ue = (afterAll (falses n, 0) (cubeNums gs)).2 := ⟨_, rfl⟩
  rw [← hbe] at HR hel ⊢
  rw [← hue]
  obtain ⟨fe, hfe⟩ : ∃ fe : Nat → Bool, fe = fun i => be.getD i false := ⟨_, rfl⟩
  obtain ⟨ft, hft⟩ : ∃ ft : Nat → Bool, ft = fun i => (trues n).getD i false := ⟨_, rfl⟩
  have HSE : Hid (siteCells be ue = si9 fe ue) := by show _ = _; rw [si9_of, hfe]
  have hev := fun W => everybodyOver_any n W (by omega)
  rw [pl9_of, ← hft] at hev
  have hsm8 : sameEight (fe 0) (fe 1) (fe 2) (fe 3) (fe 4) (fe 5) (fe 6) (fe 7) (ft 0) (ft 1) (ft 2) (ft 3) (ft 4) (ft 5) (ft 6) (ft 7) = allOver be := by
    rw [← trues_same hel, ← sameBits_ext (by rw [hel, trues_len]) (by omega), hfe, hft]
  have HSM := Lib.hid hsm8
  unfold pl9 at hev
  have HEV := Lib.hid hev
  have HGG := Lib.hid hg
  have hfd : ∀ W, (Instr.field 94 (.agg #[.bool (ft 0), .bool (ft 1), .bool (ft 2), .bool (ft 3), .bool (ft 4), .bool (ft 5), .bool (ft 6), .bool (ft 7), .bool true]) 0).run Try.prog W = .ok (.agg #[.bool (ft 0), .bool (ft 1), .bool (ft 2), .bool (ft 3), .bool (ft 4), .bool (ft 5), .bool (ft 6), .bool (ft 7)]) W := fun _ => by kernel_rfl
  rw [HSE.out]
  replace ht := below_then ht hb ht.size
  replace h0 := h0.below hb
  have hlw := h0.lt
  have hs := Whole.fresh w2 103 (si9 fe ue)
  have ht2 := ht.alloc ht.size (.cells (si9 fe ue) 103)
  replace h0 := h0.alloc (.cells (si9 fe ue) 103)
  have hgx : ∃ gx, gx = w2.heap.size := ⟨_, rfl⟩
  clear hg hb c0 c1 c2 hfe hft hev hsm8 hbe hue hel
  unfold si9 at hs ht2 h0
  unfold si9
  cases ha : allOver be
  · have HO := Lib.hid (HR.out.trans (by rw [ha, Bool.and_false]))
    rw [ha] at HSM
    clear ha
    go_wp2_with fail
    refine wp_region_held_drew (S := (fun w' => (w'.cell? ⟨w2.heap.size, 0, none⟩ = some (.bool (fe 0)) ∧ w'.cell? ⟨w2.heap.size, 1, none⟩ = some (.bool (fe 1)) ∧ w'.cell? ⟨w2.heap.size, 2, none⟩ = some (.bool (fe 2)) ∧ w'.cell? ⟨w2.heap.size, 3, none⟩ = some (.bool (fe 3)) ∧ w'.cell? ⟨w2.heap.size, 4, none⟩ = some (.bool (fe 4)) ∧ w'.cell? ⟨w2.heap.size, 5, none⟩ = some (.bool (fe 5)) ∧ w'.cell? ⟨w2.heap.size, 6, none⟩ = some (.bool (fe 6)) ∧ w'.cell? ⟨w2.heap.size, 7, none⟩ = some (.bool (fe 7)) ∧ w'.cell? ⟨w2.heap.size, 8, none⟩ = some (.int .i64 ue)) ∧ w'.cell? ⟨w.heap.size, 0, none⟩ = some (.slice A n c))) (by kernel_rfl) ⟨siteS hs.drew, h0.drew.cells3.1⟩ (fun hHeld => ?_)
    replace hs := hs.drew
    replace h0 := h0.drew
    replace ht2 := ht2.drew
    refine wpAnyH_take (i := 0) (v := ?_) rfl (by kernel_rfl) (by kernel_rfl) (by kernel_rfl) (fun _ _ _ h => h) (Or.inl ⟨rfl, ?_⟩) hHeld ?_
    rotate_left
    · intro w' hS; obtain ⟨⟨q0, q1, q2, q3, q4, q5, q6, q7, q8⟩, s0⟩ := hS; go_simp <;> with_reducible rfl
    simp only [Act.put, List.getElem_toArray, List.getElem_cons_succ, List.getElem_cons_zero, List.setIfInBounds_toArray, List.set_cons_succ, List.set_cons_zero]
    refine wpAnyH_take (i := 1) (v := ?_) rfl (by kernel_rfl) (by kernel_rfl) (by kernel_rfl) (fun _ _ _ h => h) (Or.inl ⟨rfl, ?_⟩) hHeld ?_
    rotate_left
    · intro w' hS; obtain ⟨⟨q0, q1, q2, q3, q4, q5, q6, q7, q8⟩, s0⟩ := hS; go_simp <;> with_reducible rfl
    simp only [Act.put, List.getElem_toArray, List.getElem_cons_succ, List.getElem_cons_zero, List.setIfInBounds_toArray, List.set_cons_succ, List.set_cons_zero]
    refine wpAnyH_take (i := 2) (v := ?_) rfl (by kernel_rfl) (by kernel_rfl) (by kernel_rfl) (fun _ _ _ h => h) (Or.inl ⟨rfl, ?_⟩) hHeld ?_
    rotate_left
    · intro w' hS; obtain ⟨⟨q0, q1, q2, q3, q4, q5, q6, q7, q8⟩, s0⟩ := hS; go_simp <;> with_reducible rfl
    simp only [Act.put, List.getElem_toArray, List.getElem_cons_succ, List.getElem_cons_zero, List.setIfInBounds_toArray, List.set_cons_succ, List.set_cons_zero]
    refine wpAnyH_take (i := 3) (v := ?_) rfl (by kernel_rfl) (by kernel_rfl) (by kernel_rfl) (fun _ _ _ h => h) (Or.inl ⟨rfl, ?_⟩) hHeld ?_
    rotate_left
    · intro w' hS; obtain ⟨⟨q0, q1, q2, q3, q4, q5, q6, q7, q8⟩, s0⟩ := hS; go_simp <;> with_reducible rfl
    simp only [Act.put, List.getElem_toArray, List.getElem_cons_succ, List.getElem_cons_zero, List.setIfInBounds_toArray, List.set_cons_succ, List.set_cons_zero]
    refine wpAnyH_take (i := 4) (v := ?_) rfl (by kernel_rfl) (by kernel_rfl) (by kernel_rfl) (fun _ _ _ h => h) (Or.inl ⟨rfl, ?_⟩) hHeld ?_
    rotate_left
    · intro w' hS; obtain ⟨⟨q0, q1, q2, q3, q4, q5, q6, q7, q8⟩, s0⟩ := hS; go_simp <;> with_reducible rfl
    simp only [Act.put, List.getElem_toArray, List.getElem_cons_succ, List.getElem_cons_zero, List.setIfInBounds_toArray, List.set_cons_succ, List.set_cons_zero]
    refine wpAnyH_take (i := 5) (v := ?_) rfl (by kernel_rfl) (by kernel_rfl) (by kernel_rfl) (fun _ _ _ h => h) (Or.inl ⟨rfl, ?_⟩) hHeld ?_
    rotate_left
    · intro w' hS; obtain ⟨⟨q0, q1, q2, q3, q4, q5, q6, q7, q8⟩, s0⟩ := hS; go_simp <;> with_reducible rfl
    simp only [Act.put, List.getElem_toArray, List.getElem_cons_succ, List.getElem_cons_zero, List.setIfInBounds_toArray, List.set_cons_succ, List.set_cons_zero]
    refine wpAnyH_take (i := 6) (v := ?_) rfl (by kernel_rfl) (by kernel_rfl) (by kernel_rfl) (fun _ _ _ h => h) (Or.inl ⟨rfl, ?_⟩) hHeld ?_
    rotate_left
    · intro w' hS; obtain ⟨⟨q0, q1, q2, q3, q4, q5, q6, q7, q8⟩, s0⟩ := hS; go_simp <;> with_reducible rfl
    simp only [Act.put, List.getElem_toArray, List.getElem_cons_succ, List.getElem_cons_zero, List.setIfInBounds_toArray, List.set_cons_succ, List.set_cons_zero]
    refine wpAnyH_take (i := 7) (v := ?_) rfl (by kernel_rfl) (by kernel_rfl) (by kernel_rfl) (fun _ _ _ h => h) (Or.inl ⟨rfl, ?_⟩) hHeld ?_
    rotate_left
    · intro w' hS; obtain ⟨⟨q0, q1, q2, q3, q4, q5, q6, q7, q8⟩, s0⟩ := hS; go_simp <;> with_reducible rfl
    simp only [Act.put, List.getElem_toArray, List.getElem_cons_succ, List.getElem_cons_zero, List.setIfInBounds_toArray, List.set_cons_succ, List.set_cons_zero]
    refine wpAnyH_ready (rs := [8]) (by kernel_rfl) (by simp) (AllReadyH.cons rfl (fun K hK => ?_) AllReadyH.nil)
    go_simp
    refine (HEV.out _).mono ?_
    rintro e w5 ⟨rfl, hbb⟩
    replace hs := hs.below hbb
    replace h0 := h0.below hbb
    replace ht2 := below_then ht2 hbb ht2.size
    clear hbb
    refine hK.out _ _ ⟨siteS hs, h0.cells3.1⟩ (fun hHeld => ?_)
    clear hK K
    try simp only [Act.put, List.getElem_toArray, List.getElem_cons_succ, List.getElem_cons_zero, List.setIfInBounds_toArray, List.set_cons_succ, List.set_cons_zero]
    refine wpAnyH_take (i := 9) (v := ?_) rfl (by kernel_rfl) (by kernel_rfl) (by kernel_rfl) (fun _ _ _ h => h) (Or.inl ⟨rfl, ?_⟩) hHeld ?_
    rotate_left
    · intro w' hS; obtain ⟨⟨q0, q1, q2, q3, q4, q5, q6, q7, q8⟩, s0⟩ := hS; go_simp <;> with_reducible rfl
    simp only [Act.put, List.getElem_toArray, List.getElem_cons_succ, List.getElem_cons_zero, List.setIfInBounds_toArray, List.set_cons_succ, List.set_cons_zero]
    refine wpAnyH_take (i := 10) (v := ?_) rfl (by kernel_rfl) (by kernel_rfl) (by kernel_rfl) (fun _ _ _ h => h) (Or.inl ⟨rfl, ?_⟩) hHeld ?_
    rotate_left
    · intro w' hS; obtain ⟨⟨q0, q1, q2, q3, q4, q5, q6, q7, q8⟩, s0⟩ := hS; go_simp <;> with_reducible rfl
    simp only [Act.put, List.getElem_toArray, List.getElem_cons_succ, List.getElem_cons_zero, List.setIfInBounds_toArray, List.set_cons_succ, List.set_cons_zero]
    refine wpAnyH_take (i := 11) (v := ?_) rfl (by kernel_rfl) (by kernel_rfl) (by kernel_rfl) (fun _ _ _ h => h) (Or.inl ⟨rfl, ?_⟩) hHeld ?_
    rotate_left
    · intro w' hS; obtain ⟨⟨q0, q1, q2, q3, q4, q5, q6, q7, q8⟩, s0⟩ := hS; go_simp <;> with_reducible rfl
    simp only [Act.put, List.getElem_toArray, List.getElem_cons_succ, List.getElem_cons_zero, List.setIfInBounds_toArray, List.set_cons_succ, List.set_cons_zero]
    refine wpAnyH_done (by kernel_rfl) ?_ _
    clear hHeld
    rw [HSM.out]
    go_wp2
    go_ret2
    exact ⟨by rw [nightTime_no HO.out, HO.out]; rfl, ht2⟩
  · have HO := Lib.hid (HR.out.trans (by rw [ha, Bool.and_true, HGG.out]))
    rw [ha] at HSM
    clear ha
    go_wp2_with fail
    refine wp_region_held_drew (S := (fun w' => (w'.cell? ⟨w2.heap.size, 0, none⟩ = some (.bool (fe 0)) ∧ w'.cell? ⟨w2.heap.size, 1, none⟩ = some (.bool (fe 1)) ∧ w'.cell? ⟨w2.heap.size, 2, none⟩ = some (.bool (fe 2)) ∧ w'.cell? ⟨w2.heap.size, 3, none⟩ = some (.bool (fe 3)) ∧ w'.cell? ⟨w2.heap.size, 4, none⟩ = some (.bool (fe 4)) ∧ w'.cell? ⟨w2.heap.size, 5, none⟩ = some (.bool (fe 5)) ∧ w'.cell? ⟨w2.heap.size, 6, none⟩ = some (.bool (fe 6)) ∧ w'.cell? ⟨w2.heap.size, 7, none⟩ = some (.bool (fe 7)) ∧ w'.cell? ⟨w2.heap.size, 8, none⟩ = some (.int .i64 ue)) ∧ w'.cell? ⟨w.heap.size, 0, none⟩ = some (.slice A n c))) (by kernel_rfl) ⟨siteS hs.drew, h0.drew.cells3.1⟩ (fun hHeld => ?_)
    replace hs := hs.drew
    replace h0 := h0.drew
    replace ht2 := ht2.drew
    refine wpAnyH_take (i := 0) (v := ?_) rfl (by kernel_rfl) (by kernel_rfl) (by kernel_rfl) (fun _ _ _ h => h) (Or.inl ⟨rfl, ?_⟩) hHeld ?_
    rotate_left
    · intro w' hS; obtain ⟨⟨q0, q1, q2, q3, q4, q5, q6, q7, q8⟩, s0⟩ := hS; go_simp <;> with_reducible rfl
    simp only [Act.put, List.getElem_toArray, List.getElem_cons_succ, List.getElem_cons_zero, List.setIfInBounds_toArray, List.set_cons_succ, List.set_cons_zero]
    refine wpAnyH_take (i := 1) (v := ?_) rfl (by kernel_rfl) (by kernel_rfl) (by kernel_rfl) (fun _ _ _ h => h) (Or.inl ⟨rfl, ?_⟩) hHeld ?_
    rotate_left
    · intro w' hS; obtain ⟨⟨q0, q1, q2, q3, q4, q5, q6, q7, q8⟩, s0⟩ := hS; go_simp <;> with_reducible rfl
    simp only [Act.put, List.getElem_toArray, List.getElem_cons_succ, List.getElem_cons_zero, List.setIfInBounds_toArray, List.set_cons_succ, List.set_cons_zero]
    refine wpAnyH_take (i := 2) (v := ?_) rfl (by kernel_rfl) (by kernel_rfl) (by kernel_rfl) (fun _ _ _ h => h) (Or.inl ⟨rfl, ?_⟩) hHeld ?_
    rotate_left
    · intro w' hS; obtain ⟨⟨q0, q1, q2, q3, q4, q5, q6, q7, q8⟩, s0⟩ := hS; go_simp <;> with_reducible rfl
    simp only [Act.put, List.getElem_toArray, List.getElem_cons_succ, List.getElem_cons_zero, List.setIfInBounds_toArray, List.set_cons_succ, List.set_cons_zero]
    refine wpAnyH_take (i := 3) (v := ?_) rfl (by kernel_rfl) (by kernel_rfl) (by kernel_rfl) (fun _ _ _ h => h) (Or.inl ⟨rfl, ?_⟩) hHeld ?_
    rotate_left
    · intro w' hS; obtain ⟨⟨q0, q1, q2, q3, q4, q5, q6, q7, q8⟩, s0⟩ := hS; go_simp <;> with_reducible rfl
    simp only [Act.put, List.getElem_toArray, List.getElem_cons_succ, List.getElem_cons_zero, List.setIfInBounds_toArray, List.set_cons_succ, List.set_cons_zero]
    refine wpAnyH_take (i := 4) (v := ?_) rfl (by kernel_rfl) (by kernel_rfl) (by kernel_rfl) (fun _ _ _ h => h) (Or.inl ⟨rfl, ?_⟩) hHeld ?_
    rotate_left
    · intro w' hS; obtain ⟨⟨q0, q1, q2, q3, q4, q5, q6, q7, q8⟩, s0⟩ := hS; go_simp <;> with_reducible rfl
    simp only [Act.put, List.getElem_toArray, List.getElem_cons_succ, List.getElem_cons_zero, List.setIfInBounds_toArray, List.set_cons_succ, List.set_cons_zero]
    refine wpAnyH_take (i := 5) (v := ?_) rfl (by kernel_rfl) (by kernel_rfl) (by kernel_rfl) (fun _ _ _ h => h) (Or.inl ⟨rfl, ?_⟩) hHeld ?_
    rotate_left
    · intro w' hS; obtain ⟨⟨q0, q1, q2, q3, q4, q5, q6, q7, q8⟩, s0⟩ := hS; go_simp <;> with_reducible rfl
    simp only [Act.put, List.getElem_toArray, List.getElem_cons_succ, List.getElem_cons_zero, List.setIfInBounds_toArray, List.set_cons_succ, List.set_cons_zero]
    refine wpAnyH_take (i := 6) (v := ?_) rfl (by kernel_rfl) (by kernel_rfl) (by kernel_rfl) (fun _ _ _ h => h) (Or.inl ⟨rfl, ?_⟩) hHeld ?_
    rotate_left
    · intro w' hS; obtain ⟨⟨q0, q1, q2, q3, q4, q5, q6, q7, q8⟩, s0⟩ := hS; go_simp <;> with_reducible rfl
    simp only [Act.put, List.getElem_toArray, List.getElem_cons_succ, List.getElem_cons_zero, List.setIfInBounds_toArray, List.set_cons_succ, List.set_cons_zero]
    refine wpAnyH_take (i := 7) (v := ?_) rfl (by kernel_rfl) (by kernel_rfl) (by kernel_rfl) (fun _ _ _ h => h) (Or.inl ⟨rfl, ?_⟩) hHeld ?_
    rotate_left
    · intro w' hS; obtain ⟨⟨q0, q1, q2, q3, q4, q5, q6, q7, q8⟩, s0⟩ := hS; go_simp <;> with_reducible rfl
    simp only [Act.put, List.getElem_toArray, List.getElem_cons_succ, List.getElem_cons_zero, List.setIfInBounds_toArray, List.set_cons_succ, List.set_cons_zero]
    refine wpAnyH_ready (rs := [8]) (by kernel_rfl) (by simp) (AllReadyH.cons rfl (fun K hK => ?_) AllReadyH.nil)
    go_simp
    refine (HEV.out _).mono ?_
    rintro e w5 ⟨rfl, hbb⟩
    replace hs := hs.below hbb
    replace h0 := h0.below hbb
    replace ht2 := below_then ht2 hbb ht2.size
    clear hbb
    refine hK.out _ _ ⟨siteS hs, h0.cells3.1⟩ (fun hHeld => ?_)
    clear hK K
    try simp only [Act.put, List.getElem_toArray, List.getElem_cons_succ, List.getElem_cons_zero, List.setIfInBounds_toArray, List.set_cons_succ, List.set_cons_zero]
    refine wpAnyH_take (i := 9) (v := ?_) rfl (by kernel_rfl) (by kernel_rfl) (by kernel_rfl) (fun _ _ _ h => h) (Or.inl ⟨rfl, ?_⟩) hHeld ?_
    rotate_left
    · intro w' hS; obtain ⟨⟨q0, q1, q2, q3, q4, q5, q6, q7, q8⟩, s0⟩ := hS; go_simp <;> with_reducible rfl
    simp only [Act.put, List.getElem_toArray, List.getElem_cons_succ, List.getElem_cons_zero, List.setIfInBounds_toArray, List.set_cons_succ, List.set_cons_zero]
    refine wpAnyH_take (i := 10) (v := ?_) rfl (by kernel_rfl) (by kernel_rfl) (by kernel_rfl) (fun _ _ _ h => h) (Or.inl ⟨rfl, ?_⟩) hHeld ?_
    rotate_left
    · intro w' hS; obtain ⟨⟨q0, q1, q2, q3, q4, q5, q6, q7, q8⟩, s0⟩ := hS; go_simp <;> with_reducible rfl
    simp only [Act.put, List.getElem_toArray, List.getElem_cons_succ, List.getElem_cons_zero, List.setIfInBounds_toArray, List.set_cons_succ, List.set_cons_zero]
    refine wpAnyH_take (i := 11) (v := ?_) rfl (by kernel_rfl) (by kernel_rfl) (by kernel_rfl) (fun _ _ _ h => h) (Or.inl ⟨rfl, ?_⟩) hHeld ?_
    rotate_left
    · intro w' hS; obtain ⟨⟨q0, q1, q2, q3, q4, q5, q6, q7, q8⟩, s0⟩ := hS; go_simp <;> with_reducible rfl
    simp only [Act.put, List.getElem_toArray, List.getElem_cons_succ, List.getElem_cons_zero, List.setIfInBounds_toArray, List.set_cons_succ, List.set_cons_zero]
    refine wpAnyH_done (by kernel_rfl) ?_ _
    clear hHeld
    rw [HSM.out]
    go_wp2
    go_ret2
    exact ⟨by rw [nightTime_yes HO.out, HO.out]; rfl, ht2⟩

set_option maxHeartbeats 3200000 in
set_option maxRecDepth 100000 in
set_option linter.unusedVariables false in
theorem specIsNightPlan_any (A : Option Addr) (n c : Nat) (xs : List Int) (s t : Int) (D : Option Addr) (q z : Nat) (gs : List GridV) (w : World) (hA : Holds w A (nums xs)) (hx : xs.length = n) (hn : n ≤ 9223372036854775807) (hD : Cube w D gs) (hz : gs.length = q) (hq : q ≤ 9223372036854775807) (hsm : ∀ k (hk : k < gs.length), gs[k].n ≤ 1048576) :
    Calls Try.prog 62 #[.agg #[.slice A n c, .int .i64 s, .int .i64 t], .slice D q z] w fun e w' => e = .returned (.tuple #[.bool (nightOk xs s t (cubeNums gs)), .bool (isNight xs s t && decide ((cubeNums gs).length ≤ 30))]) ∧ Below w.heap.size w w' := by
  subst hz
  have HX := Lib.hid hx
  have HCL := Lib.hid (cubeNums_len gs)
  have HSM := Lib.hid hsm
  have h0 := Whole.fresh w 48 #[.slice A n c, .int .i64 s, .int .i64 t]
  have ht := below1 w (.cells #[.slice A n c, .int .i64 s, .int .i64 t] 48)
  obtain ⟨c0, c1, c2⟩ := h0.cells3
  clear hsm
  cases hp : isNight xs s t
  · have HO : Hid (nightOk xs s t (cubeNums gs) = false) := by show _ = _; rw [nightOk, hp, Bool.false_and]
    have HPP := Lib.hid hp
    clear hp hx
    go_enter Try.func62, Try.ntmps62
    go_wp2_with fail
    refine (toGood_any A _ c xs s t _ (by exact hA.below ht) HX.out hn).mono ?_
    rintro e w1 ⟨rfl, hb⟩
    rw [HPP.out]
    replace ht := below_then ht hb ht.size
    go_wp2
    go_ret2
    exact ⟨by rw [HO.out]; rfl, ht⟩
  have HPP := Lib.hid hp
  have hok := isNight_ok hp
  have hn6 := hok.six
  have hn1 := hok.one
  have htt := hok.torches
  have hss := hok.seats
  have HR : Hid (nightOk xs s t (cubeNums gs) = planN n s t (cubeNums gs)) := by show _ = _; rw [nightOk, hp, Bool.true_and, hx]
  rw [hx] at hn6 hn1
  clear hp hok hx
  by_cases hl : 30 < gs.length
  · have HO : Hid (nightOk xs s t (cubeNums gs) = false) := HR.out.trans (planN_long (by rw [HCL.out]; exact hl))
    have HDC : Hid (decide ((cubeNums gs).length ≤ 30) = false) := by show _ = _; rw [HCL.out]; simp; omega
    go_enter Try.func62, Try.ntmps62
    go_wp2_with fail
    refine (toGood_any A _ c xs s t _ (by exact hA.below ht) HX.out hn).mono ?_
    rintro e w1 ⟨rfl, hb⟩
    rw [HPP.out]
    replace ht := below_then ht hb ht.size
    go_wp2
    go_ret2
    exact ⟨by rw [HO.out, HDC.out]; rfl, ht⟩
  · have HDC : Hid (decide ((cubeNums gs).length ≤ 30) = true) := by show _ = _; rw [HCL.out]; simp; omega
    go_enter Try.func62, Try.ntmps62
    go_wp2_with fail
    refine (toGood_any A _ c xs s t _ (by exact hA.below ht) HX.out hn).mono ?_
    rintro e w1 ⟨rfl, hb⟩
    rw [HPP.out]
    replace ht := below_then ht hb ht.size
    replace h0 := h0.below hb
    clear c0 c1 c2 hb
    obtain ⟨c0, c1, c2⟩ := h0.cells3
    go_wp2_with fail
    refine (toPlan_any A n c xs s t D _ z gs _ (by omega) hn1 (by omega) (by omega) (by omega) (by exact hD.below ht) rfl hq HSM.out).mono ?_
    rintro e w2 ⟨rfl, hb⟩
    replace ht := below_then ht hb ht.size
    clear hb c0 c1 c2
    go_wp2
    go_ret2
    exact ⟨by rw [HDC.out, HR.out]; rfl, ht⟩

set_option maxHeartbeats 3200000 in
set_option maxRecDepth 100000 in
set_option linter.unusedVariables false in
theorem implIsNightPlan_any (A : Option Addr) (n c : Nat) (xs : List Int) (s t : Int) (D : Option Addr) (q z : Nat) (gs : List GridV) (w : World) (hA : Holds w A (nums xs)) (hx : xs.length = n) (hn : n ≤ 9223372036854775807) (hD : Cube w D gs) (hz : gs.length = q) (hq : q ≤ 9223372036854775807) :
    Calls Try.prog 63 #[.agg #[.slice A n c, .int .i64 s, .int .i64 t], .slice D q z] w fun e w' => e = .returned (.tuple #[.bool (nightOk xs s t (cubeNums gs)), .bool (isNight xs s t && decide ((cubeNums gs).length ≤ 30))]) ∧ Below w.heap.size w w' := by
  subst hz
  have HX := Lib.hid hx
  have HCL := Lib.hid (cubeNums_len gs)
  have h0 := Whole.fresh w 48 #[.slice A n c, .int .i64 s, .int .i64 t]
  have ht := below1 w (.cells #[.slice A n c, .int .i64 s, .int .i64 t] 48)
  obtain ⟨c0, c1, c2⟩ := h0.cells3
  obtain ⟨nt, hnt⟩ : ∃ nt, nt = nightTime xs s t (cubeNums gs) := ⟨_, rfl⟩
  obtain ⟨no, hno⟩ : ∃ no, no = nightOk xs s t (cubeNums gs) := ⟨_, rfl⟩
  have HNT := Lib.hid (implNightTime_any A n c xs s t D gs.length z gs (w.alloc (.cells #[.slice A n c, .int .i64 s, .int .i64 t] 48)) (hA.below ht) hx hn (hD.below ht) rfl hq)
  rw [← hnt, ← hno] at HNT
  rw [← hno]
  clear hnt hno
  have hl : 30 < gs.length ∨ gs.length ≤ 30 := by omega
  cases hp : isNight xs s t
  · have HPP := Lib.hid hp
    clear hp hx
    go_enter Try.func63, Try.ntmps63
    go_wp2_with fail
    refine HNT.out.mono ?_
    clear HNT c0 c1 c2
    rintro e w1 ⟨rfl, hb⟩
    replace ht := below_then ht hb ht.size
    replace h0 := h0.below hb
    clear hb
    obtain ⟨c0, c1, c2⟩ := h0.cells3
    go_wp2_with fail
    refine (implIsNight_any A _ c xs s t _ (by exact hA.below ht) HX.out hn).mono ?_
    rintro e w2 ⟨rfl, hb⟩
    rw [HPP.out]
    replace ht := below_then ht hb ht.size
    clear hb c0 c1 c2
    go_wp2
    go_ret2
    exact ⟨by first | rfl | simp, ht⟩
  · have HPP := Lib.hid hp
    clear hp hx
    rcases hl with hl | hl
    all_goals
      first
      | (have HDC : Hid (decide ((cubeNums gs).length ≤ 30) = false) := by show _ = _; rw [HCL.out]; simp; omega)
      | (have HDC : Hid (decide ((cubeNums gs).length ≤ 30) = true) := by show _ = _; rw [HCL.out]; simp; omega)
      go_enter Try.func63, Try.ntmps63
      go_wp2_with fail
      refine HNT.out.mono ?_
      clear HNT c0 c1 c2
      rintro e w1 ⟨rfl, hb⟩
      replace ht := below_then ht hb ht.size
      replace h0 := h0.below hb
      clear hb
      obtain ⟨c0, c1, c2⟩ := h0.cells3
      go_wp2_with fail
      refine (implIsNight_any A _ c xs s t _ (by exact hA.below ht) HX.out hn).mono ?_
      rintro e w2 ⟨rfl, hb⟩
      rw [HPP.out]
      replace ht := below_then ht hb ht.size
      clear hb c0 c1 c2
      go_wp2
      go_ret2
      exact ⟨by rw [HDC.out]; first | rfl | (simp; done) | (simp; omega), ht⟩
theorem specNightTime_on (A : Option Addr) (n c : Nat) (xs : List Int) (s t : Int) (D : Option Addr) (q z : Nat) (gs : List GridV) (w : World) (hA : Holds w A (nums xs)) (hx : xs.length = n) (hn : n ≤ 9223372036854775807) (hD : Cube w D gs) (hz : gs.length = q) (hq : q ≤ 9223372036854775807) (hsm : ∀ k (hk : k < gs.length), gs[k].n ≤ 1048576) (Gs : List (List (List Int))) (he : cubeNums gs = Gs) :
    Calls Try.prog 60 #[.agg #[.slice A n c, .int .i64 s, .int .i64 t], .slice D q z] w fun e w' => e = .returned (.tuple #[.int .i64 (nightTime xs s t Gs), .bool (nightOk xs s t Gs)]) ∧ Below w.heap.size w w' := by
  subst he
  exact specNightTime_any A n c xs s t D q z gs w hA hx hn hD hz hq hsm
theorem implNightTime_on (A : Option Addr) (n c : Nat) (xs : List Int) (s t : Int) (D : Option Addr) (q z : Nat) (gs : List GridV) (w : World) (hA : Holds w A (nums xs)) (hx : xs.length = n) (hn : n ≤ 9223372036854775807) (hD : Cube w D gs) (hz : gs.length = q) (hq : q ≤ 9223372036854775807) (Gs : List (List (List Int))) (he : cubeNums gs = Gs) :
    Calls Try.prog 61 #[.agg #[.slice A n c, .int .i64 s, .int .i64 t], .slice D q z] w fun e w' => e = .returned (.tuple #[.int .i64 (nightTime xs s t Gs), .bool (nightOk xs s t Gs)]) ∧ Below w.heap.size w w' := by
  subst he
  exact implNightTime_any A n c xs s t D q z gs w hA hx hn hD hz hq
theorem specIsNightPlan_on (A : Option Addr) (n c : Nat) (xs : List Int) (s t : Int) (D : Option Addr) (q z : Nat) (gs : List GridV) (w : World) (hA : Holds w A (nums xs)) (hx : xs.length = n) (hn : n ≤ 9223372036854775807) (hD : Cube w D gs) (hz : gs.length = q) (hq : q ≤ 9223372036854775807) (hsm : ∀ k (hk : k < gs.length), gs[k].n ≤ 1048576) (Gs : List (List (List Int))) (he : cubeNums gs = Gs) :
    Calls Try.prog 62 #[.agg #[.slice A n c, .int .i64 s, .int .i64 t], .slice D q z] w fun e w' => e = .returned (.tuple #[.bool (nightOk xs s t Gs), .bool (isNight xs s t && decide (Gs.length ≤ 30))]) ∧ Below w.heap.size w w' := by
  subst he
  exact specIsNightPlan_any A n c xs s t D q z gs w hA hx hn hD hz hq hsm
theorem implIsNightPlan_on (A : Option Addr) (n c : Nat) (xs : List Int) (s t : Int) (D : Option Addr) (q z : Nat) (gs : List GridV) (w : World) (hA : Holds w A (nums xs)) (hx : xs.length = n) (hn : n ≤ 9223372036854775807) (hD : Cube w D gs) (hz : gs.length = q) (hq : q ≤ 9223372036854775807) (Gs : List (List (List Int))) (he : cubeNums gs = Gs) :
    Calls Try.prog 63 #[.agg #[.slice A n c, .int .i64 s, .int .i64 t], .slice D q z] w fun e w' => e = .returned (.tuple #[.bool (nightOk xs s t Gs), .bool (isNight xs s t && decide (Gs.length ≤ 30))]) ∧ Below w.heap.size w w' := by
  subst he
  exact implIsNightPlan_any A n c xs s t D q z gs w hA hx hn hD hz hq
end Go.Proofs.Ytifaadjbkbdbnaa

namespace Go.Proofs.Ytifaadjbkbdbnaa
open Go.RowKit

set_option maxHeartbeats 800000 in
set_option linter.unusedVariables false in
theorem lawNightTime_big0 (A0 : Option Addr) (n0 c0 : Nat) (x0 : List Int) (k0 : Int) (k1 : Int) (A1 : Option Addr) (n1 c1 : Nat) (x1 : List GridV) (w : World) (h0 : Holds w A0 (nums x0)) (hx0 : x0.length = n0) (hn0 : n0 ≤ 9223372036854775807) (h1 : Cube w A1 x1) (hx1 : x1.length = n1) (hn1 : n1 ≤ 9223372036854775807)  (hbig : 1048576 - (n0 : Int) < 0) :
    Calls Try.prog 12 #[.agg #[.slice A0 n0 c0, .int .i64 k0, .int .i64 k1], .slice A1 n1 c1] w fun e w' => e = .returned (.bool true) ∧ Below w.heap.size w w' := by
  have hb0 := (Whole.fresh w 45 #[.slice A0 n0 c0, .int .i64 k0, .int .i64 k1])
  have ht := below1 w (.cells #[.slice A0 n0 c0, .int .i64 k0, .int .i64 k1] 45)
  have HX0 := Lib.hid hx0
  have HX1 := Lib.hid hx1
  clear hx0 hx1
  obtain ⟨hb0_0, hb0_1, hb0_2⟩ := hb0.cells3
  have hb0_l := hb0.lt
  go_enter Try.func12, Try.ntmps12
  go_wp2_with fail
  refine (szNight_any A0 n0 c0 k0 k1 (1048576) _ (by omega) (by omega) (by omega)).mono ?_
  rintro e v1 ⟨rfl, hb⟩
  rw [if_pos (by omega)]
  have hz1 : w.heap.size + 1 ≤ v1.heap.size := by have := hb.size; simpa using this
  replace ht := below_then ht hb ht.size
  replace hb0 := hb0.below hb
  clear hb
  clear hb0_0 hb0_1 hb0_2 hb0_l
  go_wp2
  go_ret
  exact ⟨rfl, ht⟩

set_option maxHeartbeats 800000 in
set_option linter.unusedVariables false in
theorem lawNightTime_big1 (A0 : Option Addr) (n0 c0 : Nat) (x0 : List Int) (k0 : Int) (k1 : Int) (A1 : Option Addr) (n1 c1 : Nat) (x1 : List GridV) (w : World) (h0 : Holds w A0 (nums x0)) (hx0 : x0.length = n0) (hn0 : n0 ≤ 9223372036854775807) (h1 : Cube w A1 x1) (hx1 : x1.length = n1) (hn1 : n1 ≤ 9223372036854775807) (g0 : 0 ≤ 1048576 - (n0 : Int)) (hbig : 1048576 - (n0 : Int) - (totalC x1 : Int) < 0) :
    Calls Try.prog 12 #[.agg #[.slice A0 n0 c0, .int .i64 k0, .int .i64 k1], .slice A1 n1 c1] w fun e w' => e = .returned (.bool true) ∧ Below w.heap.size w w' := by
  have hb0 := (Whole.fresh w 45 #[.slice A0 n0 c0, .int .i64 k0, .int .i64 k1])
  have ht := below1 w (.cells #[.slice A0 n0 c0, .int .i64 k0, .int .i64 k1] 45)
  have HX0 := Lib.hid hx0
  have HX1 := Lib.hid hx1
  clear hx0 hx1
  obtain ⟨hb0_0, hb0_1, hb0_2⟩ := hb0.cells3
  have hb0_l := hb0.lt
  go_enter Try.func12, Try.ntmps12
  go_wp2_with fail
  refine (szNight_any A0 n0 c0 k0 k1 (1048576) _ (by omega) (by omega) (by omega)).mono ?_
  rintro e v1 ⟨rfl, hb⟩
  rw [if_neg (by omega)]
  have hz1 : w.heap.size + 1 ≤ v1.heap.size := by have := hb.size; simpa using this
  replace ht := below_then ht hb ht.size
  replace hb0 := hb0.below hb
  clear hb
  clear hb0_0 hb0_1 hb0_2 hb0_l
  obtain ⟨hb0_0, hb0_1, hb0_2⟩ := hb0.cells3
  have hb0_l := hb0.lt
  go_wp2_with fail
  refine (szIntSSS_any A1 n1 c1 x1 (1048576 - (n0 : Int)) _ (by exact h1.below ht) HX1.out (by omega) (by omega) (by omega)).mono ?_
  rintro e v2 ⟨rfl, rfl⟩
  rw [cubeLeft, if_pos (by omega)]
  clear hb0_0 hb0_1 hb0_2 hb0_l
  go_wp2
  go_ret
  exact ⟨rfl, ht⟩

set_option maxHeartbeats 12800000 in
set_option maxRecDepth 100000 in
set_option linter.unusedSimpArgs false in
set_option linter.unusedVariables false in
theorem lawNightTime_small (A0 : Option Addr) (n0 c0 : Nat) (x0 : List Int) (k0 : Int) (k1 : Int) (A1 : Option Addr) (n1 c1 : Nat) (x1 : List GridV) (w : World) (h0 : Holds w A0 (nums x0)) (hx0 : x0.length = n0) (hn0 : n0 ≤ 9223372036854775807) (h1 : Cube w A1 x1) (hx1 : x1.length = n1) (hn1 : n1 ≤ 9223372036854775807) (g0 : 0 ≤ 1048576 - (n0 : Int)) (g1 : 0 ≤ 1048576 - (n0 : Int) - (totalC x1 : Int)) :
    Calls Try.prog 12 #[.agg #[.slice A0 n0 c0, .int .i64 k0, .int .i64 k1], .slice A1 n1 c1] w fun e w' => e = .returned (.bool true) ∧ Below w.heap.size w w' := by
  have hb0 := (Whole.fresh w 45 #[.slice A0 n0 c0, .int .i64 k0, .int .i64 k1])
  have ht := below1 w (.cells #[.slice A0 n0 c0, .int .i64 k0, .int .i64 k1] 45)
  have HX0 := Lib.hid hx0
  have HX1 := Lib.hid hx1
  clear hx0 hx1
  obtain ⟨hb0_0, hb0_1, hb0_2⟩ := hb0.cells3
  have hb0_l := hb0.lt
  go_enter Try.func12, Try.ntmps12
  -- region 2
  go_wp2_with fail
  refine (szNight_any A0 n0 c0 k0 k1 (1048576) _ (by omega) (by omega) (by omega)).mono ?_
  rintro e v1 ⟨rfl, hb⟩
  rw [if_neg (by omega)]
  have hz1 : w.heap.size + 1 ≤ v1.heap.size := by have := hb.size; simpa using this
  replace ht := below_then ht hb ht.size
  replace hb0 := hb0.below hb
  clear hb
  clear hb0_0 hb0_1 hb0_2 hb0_l
  obtain ⟨hb0_0, hb0_1, hb0_2⟩ := hb0.cells3
  have hb0_l := hb0.lt
  -- region 5
  go_wp2_with fail
  refine (szIntSSS_any A1 n1 c1 x1 (1048576 - (n0 : Int)) _ (by exact h1.below ht) HX1.out (by omega) (by omega) (by omega)).mono ?_
  rintro e v2 ⟨rfl, rfl⟩
  rw [cubeLeft, if_neg (by omega)]
  clear hb0_0 hb0_1 hb0_2 hb0_l
  obtain ⟨hb0_0, hb0_1, hb0_2⟩ := hb0.cells3
  have hb0_l := hb0.lt
  -- region 8
  go_wp2_with fail
  refine (toNight_own A0 n0 c0 x0 k0 k1 _ (by exact h0.below ht) HX0.out (by omega)).mono ?_
  rintro e v2 ⟨gp0, rfl, hgp0, hwp0, hb⟩
  have hz2 : v1.heap.size ≤ v2.heap.size := by have := hb.size; simpa using this
  replace ht := below_then ht hb ht.size
  replace hb0 := hb0.below hb
  have hp0 := Fresh.of_whole (lo := v1.heap.size) (hi := v2.heap.size) hwp0 (by simpa using hgp0) hwp0.lt
  clear hgp0 hwp0
  clear hb
  clear hb0_0 hb0_1 hb0_2 hb0_l
  obtain ⟨hb0_0, hb0_1, hb0_2⟩ := hb0.cells3
  have hb0_l := hb0.lt
  go_wp2_with fail
  refine (toIntSSS_any A1 n1 c1 x1 _ (by exact h1.below ht) HX1.out (by omega)).mono ?_
  rintro e v3 ⟨gp1, wsp1, rfl, hgp1, hwp1, hep1, hlp1, hb⟩
  have hz3 : v2.heap.size ≤ v3.heap.size := by have := hb.size; simpa using this
  replace ht := below_then ht hb ht.size
  replace hb0 := hb0.below hb
  replace hp0 := hp0.below hb
  have HEp1 := Lib.hid hep1
  have HLp1 := Lib.hid hlp1
  clear hep1 hlp1
  have hp1 := hwp1
  have hcapp1 : n1 ≤ 1048576 := by have := totalC_len x1; have := HX1.out; omega
  clear hgp1 hwp1
  clear hb
  clear hb0_0 hb0_1 hb0_2 hb0_l
  obtain ⟨hb0_0, hb0_1, hb0_2⟩ := hb0.cells3
  have hb0_l := hb0.lt
  go_wp2_with fail
  refine (specNightTime_on _ n0 _ x0 k0 k1 _ n1 _ wsp1 _ (by exact hp0.holds) HX0.out (by omega) (by exact hp1.cube) HLp1.out (by omega) hp1.small (cubeNums x1) HEp1.out).mono ?_
  rintro e v4 ⟨rfl, hb⟩
  have hz4 : v3.heap.size ≤ v4.heap.size := by have := hb.size; simpa using this
  replace ht := below_then ht hb ht.size
  replace hb0 := hb0.below hb
  replace hp0 := hp0.below hb
  replace hp1 := hp1.below hb
  clear hb
  clear hp0 hp1
  clear hb0_0 hb0_1 hb0_2 hb0_l
  obtain ⟨hb0_0, hb0_1, hb0_2⟩ := hb0.cells3
  have hb0_l := hb0.lt
  -- region 9
  go_wp2_with fail
  refine (toNight_own A0 n0 c0 x0 k0 k1 _ (by exact h0.below ht) HX0.out (by omega)).mono ?_
  rintro e v5 ⟨gx0, rfl, hgx0, hwx0, hb⟩
  have hz5 : v4.heap.size ≤ v5.heap.size := by have := hb.size; simpa using this
  replace ht := below_then ht hb ht.size
  replace hb0 := hb0.below hb
  have hx0 := Fresh.of_whole (lo := v4.heap.size) (hi := v5.heap.size) hwx0 (by simpa using hgx0) hwx0.lt
  clear hgx0 hwx0
  clear hb
  have hx90 := Whole.fresh v5 48 #[.slice (some ⟨gx0, 0, none⟩) n0 n0, .int .i64 k0, .int .i64 k1]
  replace ht := ht.alloc ht.size (.cells #[.slice (some ⟨gx0, 0, none⟩) n0 n0, .int .i64 k0, .int .i64 k1] 48)
  replace hb0 := hb0.alloc (.cells #[.slice (some ⟨gx0, 0, none⟩) n0 n0, .int .i64 k0, .int .i64 k1] 48)
  replace hx0 := hx0.alloc (.cells #[.slice (some ⟨gx0, 0, none⟩) n0 n0, .int .i64 k0, .int .i64 k1] 48)
  clear hb0_0 hb0_1 hb0_2 hb0_l
  obtain ⟨hb0_0, hb0_1, hb0_2⟩ := hb0.cells3
  have hb0_l := hb0.lt
  obtain ⟨hx90_0, hx90_1, hx90_2⟩ := hx90.cells3
  have hx90_l := hx90.lt
  -- region 10
  go_wp2_with fail
  refine (toIntSSS_any A1 n1 c1 x1 _ (by exact h1.below ht) HX1.out (by omega)).mono ?_
  rintro e v6 ⟨gx1, wsx1, rfl, hgx1, hwx1, hex1, hlx1, hb⟩
  have hz6 : v5.heap.size + 1 ≤ v6.heap.size := by have := hb.size; simpa using this
  replace ht := below_then ht hb ht.size
  replace hb0 := hb0.below hb
  replace hx0 := hx0.below hb
  replace hx90 := hx90.below hb
  have HEx1 := Lib.hid hex1
  have HLx1 := Lib.hid hlx1
  clear hex1 hlx1
  have hx1 := hwx1
  have hcapx1 : n1 ≤ 1048576 := by have := totalC_len x1; have := HX1.out; omega
  clear hgx1 hwx1
  clear hb
  clear hb0_0 hb0_1 hb0_2 hb0_l hx90_0 hx90_1 hx90_2 hx90_l
  obtain ⟨hb0_0, hb0_1, hb0_2⟩ := hb0.cells3
  have hb0_l := hb0.lt
  obtain ⟨hx90_0, hx90_1, hx90_2⟩ := hx90.cells3
  have hx90_l := hx90.lt
  -- region 11
  go_wp2_with fail
  refine (implNightTime_on _ n0 _ x0 k0 k1 _ n1 _ wsx1 _ (by exact hx0.holds) HX0.out (by omega) (by exact hx1.cube) HLx1.out (by omega) (cubeNums x1) HEx1.out).mono ?_
  rintro e v7 ⟨rfl, hb⟩
  have hz7 : v6.heap.size ≤ v7.heap.size := by have := hb.size; simpa using this
  replace ht := below_then ht hb ht.size
  replace hb0 := hb0.below hb
  replace hx0 := hx0.below hb
  replace hx90 := hx90.below hb
  replace hx1 := hx1.below hb
  clear hb
  clear hb0_0 hb0_1 hb0_2 hb0_l hx90_0 hx90_1 hx90_2 hx90_l
  obtain ⟨hb0_0, hb0_1, hb0_2⟩ := hb0.cells3
  have hb0_l := hb0.lt
  obtain ⟨hx90_0, hx90_1, hx90_2⟩ := hx90.cells3
  have hx90_l := hx90.lt
  -- region 14
  clear hb0_0 hb0_1 hb0_2 hb0_l hx90_0 hx90_1 hx90_2 hx90_l
  go_wp2_with fail
  refine wp_region_held_drew (S := (fun w' => w'.cell? ⟨w.heap.size, 0, none⟩ = some (.slice A0 n0 c0) ∧ w'.cell? ⟨w.heap.size, 1, none⟩ = some (.int .i64 k0) ∧ w'.cell? ⟨w.heap.size, 2, none⟩ = some (.int .i64 k1) ∧ w'.cell? ⟨v5.heap.size, 0, none⟩ = some (.slice (some ⟨gx0, 0, none⟩) n0 n0) ∧ w'.cell? ⟨v5.heap.size, 1, none⟩ = some (.int .i64 k0) ∧ w'.cell? ⟨v5.heap.size, 2, none⟩ = some (.int .i64 k1))) (by kernel_rfl) ⟨hb0.drew.cell 0, hb0.drew.cell 1, hb0.drew.cell 2, hx90.drew.cell 0, hx90.drew.cell 1, hx90.drew.cell 2⟩ (fun hHeld => ?_)
  replace ht := ht.drew
  replace hb0 := hb0.drew
  replace hx0 := hx0.drew
  replace hx90 := hx90.drew
  replace hx1 := hx1.drew
  refine wpAnyH_take (i := 0) (v := ?_) rfl (by kernel_rfl) (by kernel_rfl) (by kernel_rfl) (fun _ _ _ h => h) (Or.inl ⟨rfl, ?_⟩) hHeld ?_
  rotate_left
  · intro w' hS; obtain ⟨s0, s1, s2, s3, s4, s5⟩ := hS; go_simp <;> with_reducible rfl
  simp only [Act.put, List.getElem_toArray, List.getElem_cons_succ, List.getElem_cons_zero, List.setIfInBounds_toArray, List.set_cons_succ, List.set_cons_zero]
  refine wpAnyH_take (i := 1) (v := ?_) rfl (by kernel_rfl) (by kernel_rfl) (by kernel_rfl) (fun _ _ _ h => h) (Or.inl ⟨rfl, ?_⟩) hHeld ?_
  rotate_left
  · intro w' hS; obtain ⟨s0, s1, s2, s3, s4, s5⟩ := hS; go_simp <;> with_reducible rfl
  simp only [Act.put, List.getElem_toArray, List.getElem_cons_succ, List.getElem_cons_zero, List.setIfInBounds_toArray, List.set_cons_succ, List.set_cons_zero]
  refine wpAnyH_ready (rs := [2]) (by kernel_rfl) (by simp) (AllReadyH.cons rfl (fun K hK => ?_) AllReadyH.nil)
  go_simp
  refine (toNight_own A0 n0 c0 x0 k0 k1 _ (by exact h0.below ht) HX0.out (by omega)).mono ?_
  rintro e v8 ⟨gy0, rfl, hgy0, hwy0, hb⟩
  have hz8 : v7.heap.size ≤ v8.heap.size := by have := hb.size; simpa using this
  replace ht := below_then ht hb ht.size
  replace hb0 := hb0.below hb
  replace hx0 := hx0.below hb
  replace hx90 := hx90.below hb
  replace hx1 := hx1.below hb
  have hy0 := Fresh.of_whole (lo := v7.heap.size) (hi := v8.heap.size) hwy0 (by simpa using hgy0) hwy0.lt
  clear hgy0 hwy0
  clear hb
  refine hK.out _ _ ⟨hb0.cell 0, hb0.cell 1, hb0.cell 2, hx90.cell 0, hx90.cell 1, hx90.cell 2⟩ (fun hHeld => ?_)
  clear hK K
  try simp only [Act.put, List.getElem_toArray, List.getElem_cons_succ, List.getElem_cons_zero, List.setIfInBounds_toArray, List.set_cons_succ, List.set_cons_zero]
  refine wpAnyH_ready (rs := [3]) (by kernel_rfl) (by simp) (AllReadyH.cons rfl (fun K hK => ?_) AllReadyH.nil)
  go_simp
  refine (eqNight_yes _ _ n0 _ _ x0 k0 k1 _ (by exact hx0.holds) (by exact hy0.holds) HX0.out (by omega)).mono ?_
  rintro e v9 ⟨rfl, hb⟩
  have hz9 : v8.heap.size ≤ v9.heap.size := by have := hb.size; simpa using this
  replace ht := below_then ht hb ht.size
  replace hb0 := hb0.below hb
  replace hx0 := hx0.below hb
  replace hx90 := hx90.below hb
  replace hx1 := hx1.below hb
  replace hy0 := hy0.below hb
  clear hb
  clear hy0
  refine hK.out _ _ ⟨hb0.cell 0, hb0.cell 1, hb0.cell 2, hx90.cell 0, hx90.cell 1, hx90.cell 2⟩ (fun hHeld => ?_)
  clear hK K
  try simp only [Act.put, List.getElem_toArray, List.getElem_cons_succ, List.getElem_cons_zero, List.setIfInBounds_toArray, List.set_cons_succ, List.set_cons_zero]
  refine wpAnyH_take (i := 4) (v := ?_) rfl (by kernel_rfl) (by kernel_rfl) (by kernel_rfl) (fun _ _ _ h => h) (Or.inl ⟨rfl, ?_⟩) hHeld ?_
  rotate_left
  · intro w' hS; obtain ⟨s0, s1, s2, s3, s4, s5⟩ := hS; go_simp <;> with_reducible rfl
  simp only [Act.put, List.getElem_toArray, List.getElem_cons_succ, List.getElem_cons_zero, List.setIfInBounds_toArray, List.set_cons_succ, List.set_cons_zero]
  refine wpAnyH_done (by kernel_rfl) ?_ _
  clear hHeld
  obtain ⟨hb0_0, hb0_1, hb0_2⟩ := hb0.cells3
  have hb0_l := hb0.lt
  obtain ⟨hx90_0, hx90_1, hx90_2⟩ := hx90.cells3
  have hx90_l := hx90.lt
  -- region 16
  go_wp2_with fail
  refine (toIntSSS_any A1 n1 c1 x1 _ (by exact h1.below ht) HX1.out (by omega)).mono ?_
  rintro e v10 ⟨gy1, wsy1, rfl, hgy1, hwy1, hey1, hly1, hb⟩
  have hz10 : v9.heap.size ≤ v10.heap.size := by have := hb.size; simpa using this
  replace ht := below_then ht hb ht.size
  replace hb0 := hb0.below hb
  replace hx0 := hx0.below hb
  replace hx90 := hx90.below hb
  replace hx1 := hx1.below hb
  have HEy1 := Lib.hid hey1
  have HLy1 := Lib.hid hly1
  clear hey1 hly1
  have hy1 := hwy1
  have hcapy1 : n1 ≤ 1048576 := by have := totalC_len x1; have := HX1.out; omega
  clear hgy1 hwy1
  clear hb
  clear hb0_0 hb0_1 hb0_2 hb0_l hx90_0 hx90_1 hx90_2 hx90_l
  obtain ⟨hb0_0, hb0_1, hb0_2⟩ := hb0.cells3
  have hb0_l := hb0.lt
  obtain ⟨hx90_0, hx90_1, hx90_2⟩ := hx90.cells3
  have hx90_l := hx90.lt
  go_wp2_with fail
  refine (eqIntSSS_yes _ _ n1 n1 _ _ wsx1 wsy1 _ (by exact hx1.cube) (by exact hy1.cube) (by rw [HEx1.out, HEy1.out]) HLx1.out HLy1.out (by omega)).mono ?_
  rintro e v11 ⟨rfl, hb⟩
  have hz11 : v10.heap.size ≤ v11.heap.size := by have := hb.size; simpa using this
  replace ht := below_then ht hb ht.size
  replace hb0 := hb0.below hb
  replace hx0 := hx0.below hb
  replace hx90 := hx90.below hb
  replace hx1 := hx1.below hb
  replace hy1 := hy1.below hb
  clear hb
  clear hy1
  clear hb0_0 hb0_1 hb0_2 hb0_l hx90_0 hx90_1 hx90_2 hx90_l
  obtain ⟨hb0_0, hb0_1, hb0_2⟩ := hb0.cells3
  have hb0_l := hb0.lt
  obtain ⟨hx90_0, hx90_1, hx90_2⟩ := hx90.cells3
  have hx90_l := hx90.lt
  go_wp2
  go_ret
  exact ⟨rfl, ht⟩

theorem lawNightTime_all (A0 : Option Addr) (n0 c0 : Nat) (x0 : List Int) (k0 : Int) (k1 : Int) (A1 : Option Addr) (n1 c1 : Nat) (x1 : List GridV) (w : World) (h0 : Holds w A0 (nums x0)) (hx0 : x0.length = n0) (hn0 : n0 ≤ 9223372036854775807) (h1 : Cube w A1 x1) (hx1 : x1.length = n1) (hn1 : n1 ≤ 9223372036854775807) :
    Calls Try.prog 12 #[.agg #[.slice A0 n0 c0, .int .i64 k0, .int .i64 k1], .slice A1 n1 c1] w fun e w' => e = .returned (.bool true) ∧ Below w.heap.size w w' := by
  rcases (inferInstance : Decidable (0 ≤ 1048576 - (n0 : Int))) with g0 | g0
  · exact lawNightTime_big0 A0 n0 c0 x0 k0 k1 A1 n1 c1 x1 w h0 hx0 hn0 h1 hx1 hn1  (by omega)
  rcases (inferInstance : Decidable (0 ≤ 1048576 - (n0 : Int) - (totalC x1 : Int))) with g1 | g1
  · exact lawNightTime_big1 A0 n0 c0 x0 k0 k1 A1 n1 c1 x1 w h0 hx0 hn0 h1 hx1 hn1 g0 (by omega)
  exact lawNightTime_small A0 n0 c0 x0 k0 k1 A1 n1 c1 x1 w h0 hx0 hn0 h1 hx1 hn1 g0 g1
end Go.Proofs.Ytifaadjbkbdbnaa
