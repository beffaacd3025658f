/-
  What is proved: lists of lists of the call's own, and contracts of the laws' marks on them. Conditions: the rows are new, open to writes and apart from each other; counts are small.
  What is proved: the contract of a trip made by the model. Conditions: the trip is one.
  What is proved: the contract of trips made one after the other by the model. Conditions: the arguments are read as they lie; there is somebody.
  What is proved: a list of lists that the call makes row by row. Conditions: each new row is the call's own, in a range of blocks that no other one meets.
  What is proved: the contract of the program's trips of a squad. Conditions: at most twelve people.
  What is proved: plain facts on lists of lists that a call hands back. Conditions: none.
  What is proved: plain facts on the rising lists that begin with some people and go on with others, and on lists of lists put one behind the other. Conditions: none.
  What is proved: the contract of the program's listsFrom: the rising lists that begin with some people and go on with others. Conditions: the lists are read as they lie; at most eight others, and at most eight to begin with.
  What is proved: contracts of the program's pairTrips, timeOfTrips, pairTrip.list and listsOfTrips. Conditions: the arguments are read as they lie; at most 24 trips.
  What is proved: plain facts on lists that are laid one behind the other, and on the list of them. Conditions: none.
  What is proved: plain facts on the signs of rounds and on lists of trips, and the contract of the model's prPair. Conditions: none.
  What is proved: the contract of the model's prTrips: the trips of two at once, the signs of their rounds, and whether one was even. Conditions: one to twelve times, each from 1 to 1000, read as they lie.
  What is proved: contracts of the model's sums of the times of trips (paSum, prSum, prTime), and that they are the program's. Conditions: the trips are some of these people's; at most forty.
-/
import Derived.Deep.DeepCutAuto
import Derived.Deep.AppendLies
import Derived.Laws.Concat
import Derived.Test.YtcoagbcleccmmaaJ1DoesFit
set_option linter.unusedSimpArgs false
set_option linter.unusedVariables false
namespace Go.Proofs.Ytcoagbcleccmmaa
open Go.RowKit

/-- The same place with other numbers. -/
def RowV.put (r : RowV) (ys : List Int) : RowV := ⟨r.A, r.n, r.c, ys⟩
/-- Rows of the call's own, each in a range of blocks that no other one meets. -/
def FreeRows (w : World) (ps : List (Nat × Nat)) (rs : List RowV) : Prop :=
  ps.length = rs.length ∧ (∀ (k : Nat) r p, rs[k]? = some r → ps[k]? = some p → Fresh w p.1 p.2 3 r.A (nums r.xs) ∧ r.xs.length = r.n ∧ r.n ≤ 1048576) ∧
    ∀ (i j : Nat) p p', i ≠ j → ps[i]? = some p → ps[j]? = some p' → p.2 ≤ p'.1 ∨ p'.2 ≤ p.1
/-- A list of lists of the call's own, all of it in blocks from lo on and before hi. -/
def FreeGrid (w : World) (lo hi : Nat) (A : Option Addr) (rs : List RowV) : Prop :=
  ∃ ps, FreeRows w ps rs ∧ (∀ p ∈ ps, lo ≤ p.1 ∧ p.2 ≤ hi) ∧ (rs = [] ∨ ∃ b o, A = some ⟨b, o, none⟩ ∧ b < w.heap.size ∧ lo ≤ b ∧ b < hi ∧ (∀ p ∈ ps, b < p.1 ∨ p.2 ≤ b) ∧ ∀ j u, (rowVals rs)[j]? = some u → w.cell? ⟨b, o + j, none⟩ = some u)
section
variable {w w' : World} {lo hi lo' hi' : Nat} {A : Option Addr} {rs : List RowV} {ps : List (Nat × Nat)}
theorem FreeRows.below (h : FreeRows w ps rs) (hb : Below w.heap.size w w') : FreeRows w' ps rs :=
  ⟨h.1, fun k r p hr hp => ⟨(h.2.1 k r p hr hp).1.below hb, (h.2.1 k r p hr hp).2⟩, h.2.2⟩
theorem FreeGrid.below (h : FreeGrid w lo hi A rs) (hb : Below w.heap.size w w') : FreeGrid w' lo hi A rs := by
  obtain ⟨ps, h1, h2, h3⟩ := h
  refine ⟨ps, h1.below hb, h2, ?_⟩
  rcases h3 with h3 | ⟨b, o, hA, hl, g1, g2, hd, hc⟩
  · exact .inl h3
  · exact .inr ⟨b, o, hA, Nat.lt_of_lt_of_le hl hb.size, g1, g2, hd, fun j u hu => (hb.cell (p := ⟨b, o + j, none⟩) hl).trans (hc j u hu)⟩
theorem FreeGrid.alloc (h : FreeGrid w lo hi A rs) (o : Obj) : FreeGrid (w.alloc o) lo hi A rs := h.below (below1 w o)
theorem FreeGrid.drew (h : FreeGrid w lo hi A rs) : FreeGrid w.drew lo hi A rs := h.below ⟨rfl, rfl, rfl, Nat.le_refl _, fun _ _ => rfl⟩
theorem FreeGrid.more (h : FreeGrid w lo hi A rs) (h1 : lo' ≤ lo) (h2 : hi ≤ hi') : FreeGrid w lo' hi' A rs := by
  obtain ⟨ps, g1, g2, g3⟩ := h
  refine ⟨ps, g1, fun p hp => ⟨Nat.le_trans h1 (g2 p hp).1, Nat.le_trans (g2 p hp).2 h2⟩, ?_⟩
  rcases g3 with g3 | ⟨b, o, hA, hl, k1, k2, hd, hc⟩
  · exact .inl g3
  · exact .inr ⟨b, o, hA, hl, Nat.le_trans h1 k1, Nat.lt_of_lt_of_le k2 h2, hd, hc⟩
theorem FreeGrid.grid (h : FreeGrid w lo hi A rs) : Grid w A rs := by
  obtain ⟨ps, g1, g2, g3⟩ := h
  refine ⟨?_, fun r hr => ?_⟩
  · rcases g3 with rfl | ⟨b, o, hA, hl, -, -, -, hc⟩
    · exact .inl rfl
    · exact .inr ⟨b, o, hA, hl, hc⟩
  · obtain ⟨k, hk, rfl⟩ := List.getElem_of_mem hr
    obtain ⟨a1, a2, a3⟩ := g1.2.1 k rs[k] (ps[k]'(by rw [g1.1]; exact hk)) (List.getElem?_eq_getElem hk) (List.getElem?_eq_getElem (by rw [g1.1]; exact hk))
    exact ⟨a1.holds, a2, by omega⟩
theorem Span.wider (h : Span lo' hi' w w') (h1 : lo ≤ lo') (h2 : hi' ≤ hi) : Span lo hi w w' := ⟨h.os, h.tape, h.output, h.size, fun k hk hd => h.block k hk (by omega)⟩
theorem Span.cell (h : Span lo hi w w') {p : Addr} (hl : p.block < w.heap.size) (hg : p.block < lo ∨ hi ≤ p.block) : w'.cell? p = w.cell? p := by
  unfold World.cell?
  rw [h.block p.block hl hg]
theorem Span.freeRows (h : Span lo hi w w') (hf : FreeRows w ps rs) (hd : ∀ p ∈ ps, p.2 ≤ lo ∨ hi ≤ p.1) : FreeRows w' ps rs :=
  ⟨hf.1, fun k r p hr hp => ⟨h.fresh (hf.2.1 k r p hr hp).1 (hd p (List.mem_of_getElem? hp)), (hf.2.1 k r p hr hp).2⟩, hf.2.2⟩
theorem Span.freeGrid (h : Span lo hi w w') (hf : FreeGrid w lo' hi' A rs) (hd : hi' ≤ lo ∨ hi ≤ lo') : FreeGrid w' lo' hi' A rs := by
  obtain ⟨ps, g1, g2, g3⟩ := hf
  refine ⟨ps, h.freeRows g1 (fun p hp => by have := g2 p hp; omega), g2, ?_⟩
  rcases g3 with g3 | ⟨b, o, hA, hl, k1, k2, hdd, hc⟩
  · exact .inl g3
  · exact .inr ⟨b, o, hA, Nat.lt_of_lt_of_le hl h.size, k1, k2, hdd, fun j u hu => (h.cell (p := ⟨b, o + j, none⟩) hl (by show b < lo ∨ hi ≤ b; omega)).trans (hc j u hu)⟩
/-- Behind a row that has turned: the others stand as they were. -/
theorem FreeRows.turn (h : FreeRows w ps rs) {k : Nat} {r : RowV} {p : Nat × Nat} (hr : rs[k]? = some r) (hp : ps[k]? = some p) (hs : Span p.1 p.2 w w') {ys : List Int} (hf : Fresh w' p.1 p.2 3 r.A (nums ys)) (hy : ys.length = r.n) : FreeRows w' ps (rs.set k (r.put ys)) := by
  refine ⟨by simp [h.1], fun i r' p' hi hp' => ?_, h.2.2⟩
  rw [List.getElem?_set] at hi
  by_cases he : k = i
  · subst he
    obtain rfl : p = p' := by rw [hp] at hp'; exact Option.some.inj hp'
    rw [if_pos rfl] at hi
    split at hi
    · obtain rfl := Option.some.inj hi
      exact ⟨hf, hy, (h.2.1 k r p hr hp).2.2⟩
    · cases hi
  · rw [if_neg he] at hi
    exact ⟨hs.fresh (h.2.1 i r' p' hi hp').1 (by have := h.2.2 i k p' p (fun e => he e.symm) hp' hp; omega), (h.2.1 i r' p' hi hp').2⟩
theorem FreeGrid.turn (h : FreeGrid w lo hi A rs) {k : Nat} (hk : k < rs.length) : ∃ a b, lo ≤ a ∧ b ≤ hi ∧ Fresh w a b 3 rs[k].A (nums rs[k].xs) ∧ rs[k].xs.length = rs[k].n ∧ rs[k].n ≤ 1048576 ∧
    ∀ w' ys, Span a b w w' → Fresh w' a b 3 rs[k].A (nums ys) → ys.length = rs[k].n → FreeGrid w' lo hi A (rs.set k (rs[k].put ys)) := by
  obtain ⟨ps, g1, g2, g3⟩ := h
  have hk' : k < ps.length := by rw [g1.1]; exact hk
  have e1 : rs[k]? = some rs[k] := List.getElem?_eq_getElem hk
  have e2 : ps[k]? = some ps[k] := List.getElem?_eq_getElem hk'
  have hb := g2 _ (List.getElem_mem hk')
  obtain ⟨f1, f2, f3⟩ := g1.2.1 k _ _ e1 e2
  refine ⟨ps[k].1, ps[k].2, hb.1, hb.2, f1, f2, f3, fun w' ys hs hf hy => ⟨ps, g1.turn e1 e2 hs hf hy, g2, ?_⟩⟩
  rcases g3 with g3 | ⟨b, o, hA, hl, k1, k2, hdd, hc⟩
  · subst g3; simp at hk
  · refine .inr ⟨b, o, hA, Nat.lt_of_lt_of_le hl hs.size, k1, k2, hdd, fun j u hu => (hs.cell (p := ⟨b, o + j, none⟩) hl (by have := hdd _ (List.getElem_mem hk'); show b < ps[k].1 ∨ ps[k].2 ≤ b; omega)).trans (hc j u ?_)⟩
    rw [← hu]
    simp only [rowVals, List.getElem?_map, List.getElem?_set]
    by_cases he : k = j
    · subst he
      rw [if_pos rfl, if_pos hk, e1]
      rfl
    · rw [if_neg he]
end
/-- The ranges of lists that lie one behind the other. -/
theorem OwnRows.free {w : World} : ∀ {rs : List RowV} {lo hi : Nat}, OwnRows w lo hi rs → ∃ ps, FreeRows w ps rs ∧ ∀ p ∈ ps, lo ≤ p.1 ∧ p.2 ≤ hi
  | [], _, _, _ => ⟨[], ⟨rfl, fun k r p hr => by simp at hr, fun i j p p' _ hi => by simp at hi⟩, fun p hp => by cases hp⟩
  | r :: rs, lo, hi, ⟨mid, h1, hf, hl, hn, h2⟩ => by
    obtain ⟨ps, g, hg⟩ := h2.free
    have hle := h2.le
    refine ⟨(lo, mid) :: ps, ⟨by simp [g.1], fun k r' p hr hp => ?_, fun i j p p' hij hi hj => ?_⟩, fun p hp => ?_⟩
    · cases k with
      | zero => simp only [List.getElem?_cons_zero, Option.some.injEq] at hr hp; subst hr hp; exact ⟨hf, hl, hn⟩
      | succ k => simp only [List.getElem?_cons_succ] at hr hp; exact g.2.1 k r' p hr hp
    · cases i with
      | zero =>
        cases j with
        | zero => exact absurd rfl hij
        | succ j =>
          simp only [List.getElem?_cons_zero, List.getElem?_cons_succ, Option.some.injEq] at hi hj
          subst hi
          exact .inl (hg p' (List.mem_of_getElem? hj)).1
      | succ i =>
        cases j with
        | zero =>
          simp only [List.getElem?_cons_zero, List.getElem?_cons_succ, Option.some.injEq] at hi hj
          subst hj
          exact .inr (hg p (List.mem_of_getElem? hi)).1
        | succ j =>
          simp only [List.getElem?_cons_succ] at hi hj
          exact g.2.2 i j p p' (by omega) hi hj
    · rcases List.mem_cons.1 hp with rfl | hp
      · exact ⟨Nat.le_refl _, hle⟩
      · exact ⟨Nat.le_trans h1 (hg p hp).1, (hg p hp).2⟩
theorem OwnGrid.free {w : World} {g hi : Nat} {rs : List RowV} (h : OwnGrid w g hi rs) : FreeGrid w g hi (some ⟨g, 0, none⟩) rs := by
  obtain ⟨ps, h1, h2⟩ := h.2.free
  refine ⟨ps, h1, fun p hp => ⟨by have := (h2 p hp).1; omega, (h2 p hp).2⟩, .inr ⟨g, 0, rfl, h.1.lt, Nat.le_refl _, h.2.le, fun p hp => .inl (h2 p hp).1, fun j u hu => ?_⟩⟩
  rw [Nat.zero_add, h.1.cell j]
  simpa using hu

theorem part_sum {rs : List RowV} : part rs rs.length = (rs.map RowV.n).sum := by simp [part]
theorem part_nums {w : World} {A B : Option Addr} {rs ss : List RowV} (hA : Grid w A rs) {w' : World} (hB : Grid w' B ss) (h : rowNums rs = rowNums ss) : part rs rs.length = part ss ss.length := by
  rw [part_sum, part_sum]
  have e : ∀ {u : World} {C : Option Addr} {ts : List RowV}, Grid u C ts → ts.map RowV.n = (rowNums ts).map List.length := by
    intro u C ts hC
    rw [rowNums, List.map_map]
    exact List.map_congr_left fun r hr => (hC.2 r hr).2.1.symm
  rw [e hA, e hB, h]
theorem part_total (rs : List RowV) : part rs rs.length ≤ total rs := by unfold total; omega

/-- The first k lists overwritten by a count from q on. -/
def markTo (q : Int) (rs : List RowV) (k : Nat) : List RowV := (List.range rs.length).map fun j => if j < k then (rs.getD j ⟨none, 0, 0, []⟩).put (marksI (q + part rs j) (rs.getD j ⟨none, 0, 0, []⟩).n) else rs.getD j ⟨none, 0, 0, []⟩
theorem markTo_len (q : Int) (rs : List RowV) (k : Nat) : (markTo q rs k).length = rs.length := by simp [markTo]
theorem markTo_zero (q : Int) (rs : List RowV) : markTo q rs 0 = rs := by
  apply List.ext_getElem
  · simp [markTo]
  · intro i h1 h2
    simp [markTo, h2]
theorem markTo_at (q : Int) (rs : List RowV) (k i : Nat) (h : i < (markTo q rs k).length) : (markTo q rs k)[i] = if i < k then (rs[i]'(by rw [markTo_len] at h; exact h)).put (marksI (q + part rs i) (rs[i]'(by rw [markTo_len] at h; exact h)).n) else rs[i]'(by rw [markTo_len] at h; exact h) := by
  have h' : i < rs.length := by rw [markTo_len] at h; exact h
  simp [markTo, h']
theorem markTo_here (q : Int) (rs : List RowV) (k : Nat) (h : k < (markTo q rs k).length) : (markTo q rs k)[k] = rs[k]'(by rw [markTo_len] at h; exact h) := by
  rw [markTo_at, if_neg (by omega)]
theorem markTo_next (q : Int) (rs : List RowV) {k : Nat} (h : k < rs.length) : (markTo q rs k).set k (rs[k].put (marksI (q + part rs k) rs[k].n)) = markTo q rs (k + 1) := by
  apply List.ext_getElem
  · simp [markTo_len]
  · intro i h1 h2
    rw [List.getElem_set]
    by_cases he : k = i
    · subst he
      rw [if_pos rfl, markTo_at, if_pos (by omega)]
    · rw [if_neg he, markTo_at, markTo_at]
      by_cases hi : i < k
      · rw [if_pos hi, if_pos (by omega)]
      · rw [if_neg hi, if_neg (by omega)]

set_option maxHeartbeats 800000 in
theorem markIntSS_any (A : Option Addr) (n c lo hi : Nat) (rs : List RowV) (q : Int) (w : World) (hf : FreeGrid w lo hi A rs) (hx : rs.length = n) (h0 : 0 ≤ q) (h1 : q ≤ 2305843009213693952) (hn : n ≤ 1048576) (hp : part rs rs.length ≤ 1048576) :
    Calls Try.prog 35 #[.slice A n c, .int .i64 q] w fun e w' => e = .returned (.int .i64 (q + (part rs rs.length : Nat))) ∧ Span lo hi w w' ∧ FreeGrid w' lo hi A (markTo q rs rs.length) := by
  have HX := Lib.hid hx
  have HM : Hid (FreeGrid w lo hi A (markTo q rs 0)) := by show FreeGrid _ _ _ _ _; rw [markTo_zero]; exact hf
  clear hx hf
  go_enter Try.func35, Try.ntmps35
  go_wp2
  go_loopw [1, 5] (fun v i wr => ∃ k : Nat, k ≤ n ∧ i = .int .i64 k ∧ v = .int .i64 (q + part rs k) ∧ FreeGrid wr lo hi A (markTo q rs k) ∧ Span lo hi w wr) (fun _ i _ => n - (intOf i).toNat)
  case atStart => exact ⟨0, Nat.zero_le _, rfl, by simp [part_zero], HM.out, Span.refl _ _ _⟩
  case round =>
    obtain ⟨k, hk, rfl, rfl, hm, hs⟩ := hrel
    clear HM
    by_cases hlt : k < n
    · have hkr : k < rs.length := by have := HX.out; omega
      have hkm : k < (markTo q rs k).length := by rw [markTo_len]; exact hkr
      obtain ⟨b, o, rfl, hb, hc, hok⟩ := hm.grid.look hkm
      obtain ⟨lo1, hi1, l1, l2, hf, hl, hs1, hturn⟩ := hm.turn hkm
      have hpl := part_le (rs := rs) (Nat.le_refl _) (j := k) (by omega)
      have hpn := part_next hkr
      have HPN := Lib.hid hpn
      have HT := Lib.hid hturn
      have HN := Lib.hid (markTo_next q rs hkr)
      have HF := Lib.hid hf
      have HL := Lib.hid hl
      have HE := Lib.hid (markTo_here q rs k hkm)
      rw [HE.out] at hc
      rw [HE.out] at hs1
      have HS := Lib.hid hs
      clear hm hf hl hturn hok hpn hs
      have hq0 : (0 : Int) ≤ q + part rs k := by omega
      have hq1 : q + (part rs k : Int) ≤ 4611686018427387904 := by omega
      go_wp2_with fail
      refine (markIntS_any rs[k].A rs[k].n _ lo1 hi1 (nums rs[k].xs) _ _ (by rw [← HE.out]; exact HF.out) (by rw [nums_len, ← HE.out]; exact HL.out) hq0 hq1 hs1).mono ?_
      rintro e w1 ⟨rfl, hs2, hf2⟩
      have hsz : Span lo hi w w1 := HS.out.trans (hs2.wider l1 l2)
      have HG : Hid (FreeGrid w1 lo hi (some ⟨b, o, none⟩) (markTo q rs (k + 1))) := by
        show FreeGrid _ _ _ _ _
        rw [← HN.out]
        have h := HT.out w1 (marksI (q + part rs k) rs[k].n) hs2 (by rw [HE.out]; exact hf2) (by rw [marksI_len, HE.out])
        rw [HE.out] at h
        exact h
      clear hs2 hf2 HT
      go_wp2
      go_roundw
      case rel => exact ⟨k + 1, by omega, by go_num, by rw [HPN.out]; first | exact congrArg _ (by omega) | (simp; omega), HG.out, hsz⟩
      case measure => simp [intOf]; omega
    · have hkn : k = rs.length := by have := HX.out; omega
      subst hkn
      go_wp2
      go_ret
      exact ⟨rfl, hs, hm⟩

set_option maxHeartbeats 800000 in
theorem heldIntSS_any (A : Option Addr) (n c : Nat) (rs : List RowV) (q : Int) (w : World) (hA : Grid w A (markTo q rs rs.length)) (hx : rs.length = n) (h0 : 0 ≤ q) (h1 : q ≤ 2305843009213693952) (hn : n ≤ 1048576) (hp : part rs rs.length ≤ 1048576) :
    Calls Try.prog 36 #[.slice A n c, .int .i64 q] w fun e w' => e = .returned (.int .i64 (q + (part rs rs.length : Nat))) ∧ Below w.heap.size w w' := by
  have HX := Lib.hid hx
  clear hx
  go_enter Try.func36, Try.ntmps36
  go_wp2
  go_loop [1, 5] (fun v i => ∃ k : Nat, k ≤ n ∧ i = .int .i64 k ∧ v = .int .i64 (q + part rs k)) (fun _ i => n - (intOf i).toNat)
  case atStart => exact ⟨0, Nat.zero_le _, rfl, by simp [part_zero]⟩
  case round =>
    obtain ⟨k, hk, rfl, rfl⟩ := hrel
    by_cases hlt : k < n
    · have hkr : k < rs.length := by have := HX.out; omega
      have hkm : k < (markTo q rs rs.length).length := by rw [markTo_len]; exact hkr
      obtain ⟨b, o, rfl, hb, hc, hok⟩ := hA.look hkm
      have he : (markTo q rs rs.length)[k] = (rs[k].put (marksI (q + part rs k) rs[k].n)) := by rw [markTo_at, if_pos hkr]
      rw [he] at hc hok
      have hpl := part_le (rs := rs) (Nat.le_refl _) (j := k + 1) (by omega)
      have hpn := part_next hkr
      have hs1 : rs[k].n ≤ 1048576 := by omega
      have HPN := Lib.hid hpn
      have HOK := Lib.hid hok.1
      have hq0 : (0 : Int) ≤ q + part rs k := by omega
      have hq1 : q + (part rs k : Int) ≤ 4611686018427387904 := by omega
      have hq2 : (0 : Int) ≤ q + part rs k + rs[k].n := by omega
      clear he hok hpn
      simp only [RowV.put] at hc
      go_wp2_with fail
      refine (heldIntS_any rs[k].A rs[k].n _ _ _ HOK.out hq0 hq1 hs1).mono ?_
      rintro e w1 ⟨rfl, rfl⟩
      go_wp2
      go_round
      case rel => exact ⟨k + 1, by omega, by go_num, by rw [HPN.out]; first | exact congrArg _ (by omega) | (simp; omega)⟩
      case measure => simp [intOf]; omega
    · have hkn : k = rs.length := by have := HX.out; omega
      subst hkn
      go_wp2
      go_ret
      exact ⟨rfl, Below.refl _ _⟩
end Go.Proofs.Ytcoagbcleccmmaa

namespace Go.Proofs.Ytcoagbcleccmmaa
open Go.RowKit

theorem Fresh.turn {w : World} {lo hi k : Nat} {ty : TypeId} {A : Option Addr} {xs : List Value} (hf : Fresh w lo hi ty A xs) (hk : k < xs.length) :
    ∃ g u, A = some ⟨g, 0, none⟩ ∧ lo ≤ g ∧ g < hi ∧ g < w.heap.size ∧ w.cell? ⟨g, k, none⟩ = some u ∧ w.frozen? ⟨g, k, none⟩ = false ∧ ∀ v, Fresh (w.setCell ⟨g, k, none⟩ v) lo hi ty A (xs.set k v) := by
  rcases hf with rfl | ⟨g, cs, hA, h1, h2, hw, h3, h4⟩
  · simp at hk
  · refine ⟨g, cs[k]'(by omega), hA, h1, h2, hw.lt, (hw.cell k).trans (by simp), hw.open_ k, fun v => .inr ⟨g, _, hA, h1, h2, hw.set_ k v, by simpa using h3, ?_⟩⟩
    rw [List.length_set, Array.toList_setIfInBounds, ← h4, List.take_set, List.length_take]
    congr 2
    simp only [Array.length_toList]
    omega

end Go.Proofs.Ytcoagbcleccmmaa

namespace Go.Proofs.Ytcoagbcleccmmaa
open Go.RowKit

theorem Holds.spot {w : World} {A : Option Addr} {xs : List Value} (h : Holds w A xs) (h0 : 0 < xs.length) : ∃ b o, A = some ⟨b, o, none⟩ ∧ b < w.heap.size ∧ ∀ j u, xs[j]? = some u → w.cell? ⟨b, o + j, none⟩ = some u := by
  rcases h with rfl | h
  · simp at h0
  · exact h
/-- The places lie in a block that is old or new, but none of the call's own first three. -/
def Apart (B : Nat) (w : World) (A : Option Addr) (xs : List Value) : Prop := ∃ b o, A = some ⟨b, o, none⟩ ∧ b < w.heap.size ∧ (b < B ∨ B + 1 + 1 + 1 ≤ b) ∧ ∀ j u, xs[j]? = some u → w.cell? ⟨b, o + j, none⟩ = some u
theorem Apart.holds {B : Nat} {w : World} {A : Option Addr} {xs : List Value} (h : Apart B w A xs) : Holds w A xs := by
  obtain ⟨b, o, hA, hb, -, hc⟩ := h
  exact .inr ⟨b, o, hA, hb, hc⟩
theorem Apart.below {B : Nat} {w w' : World} {A : Option Addr} {xs : List Value} (h : Apart B w A xs) (hb : Below w.heap.size w w') : Apart B w' A xs := by
  obtain ⟨b, o, hA, hl, hd, hc⟩ := h
  exact ⟨b, o, hA, Nat.lt_of_lt_of_le hl hb.size, hd, fun j u hu => (hb.cell (p := ⟨b, o + j, none⟩) hl).trans (hc j u hu)⟩
theorem Apart.set {B g i : Nat} {w : World} {A : Option Addr} {xs : List Value} (h : Apart B w A xs) (hg : B ≤ g ∧ g ≤ B + 1 + 1) (v : Value) : Apart B (w.setCell ⟨g, i, none⟩ v) A xs := by
  obtain ⟨b, o, hA, hl, hd, hc⟩ := h
  refine ⟨b, o, hA, by simpa [World.setCell] using hl, hd, fun j u hu => ?_⟩
  have h1 := hc j u hu
  have h2 := Below.heap_setCell w ⟨g, i, none⟩ v b (by show b ≠ g; omega)
  simp only [World.cell?] at h1 ⊢
  rw [h2]
  exact h1

/-- What paPlay hands back. -/
def PlayPost (n : Nat) (s : Int) (bs : List Bool) (t : Bool) (ls : List (List Int)) (m : Nat) (w : World) (e : Ending) (w' : World) : Prop :=
  ∃ (A : Option Addr) (c : Nat), e = .returned (.tuple #[.agg #[.slice A m c, .bool (ended n s bs t ls).2], .int .i64 (made n s bs t ls)]) ∧ Holds w' A (bits (ended n s bs t ls).1) ∧ Below w.heap.size w w'

theorem rowNums_get {rs : List RowV} {k : Nat} (hk : k < rs.length) : (rowNums rs)[k]'(by rw [rowNums_len]; exact hk) = rs[k].xs := by simp [rowNums]

end Go.Proofs.Ytcoagbcleccmmaa

namespace Go.Proofs.Ytcoagbcleccmmaa
open Go.RowKit


/-- A list of lists that the call makes and goes on with: its heads in a block of the call's own, each row in a range of blocks of its own, all from lo on. -/
def Heads (w : World) (lo : Nat) (A : Option Addr) (c : Nat) (rs : List RowV) : Prop :=
  w.ownsRow lo 39 1 (.slice A rs.length c) rs.length (rowVals rs) ∧
    ∃ ps, FreeRows w ps rs ∧ (∀ p ∈ ps, lo ≤ p.1 ∧ p.2 ≤ w.heap.size) ∧ ∀ a : Addr, A = some a → ∀ p ∈ ps, a.block < p.1 ∨ p.2 ≤ a.block
theorem Heads.nil (w : World) (lo : Nat) : Heads w lo none 0 [] :=
  ⟨World.ownsRow_nil _ _ _ _, [], ⟨rfl, fun k r p h => by simp at h, fun i j p p' _ h => by simp at h⟩, fun p h => by simp at h, fun a h => by cases h⟩
theorem own_keep {w w' : World} {base : Nat} {e : TypeId} {size : Nat} {v : Value} {n : Nat} {xs : List Value} (h : w.ownsRow base e size v n xs) (hb : Below w.heap.size w w') : w'.ownsRow base e size v n xs := by
  obtain ⟨hl, h | ⟨g, cap, cur, hv, hg, hh, r⟩⟩ := h
  · exact ⟨hl, .inl h⟩
  · exact ⟨hl, .inr ⟨g, cap, cur, hv, hg, (hb.block g (Array.getElem?_eq_some_iff.1 hh).1).trans hh, r⟩⟩
theorem Heads.below {w w' : World} {lo c : Nat} {A : Option Addr} {rs : List RowV} (h : Heads w lo A c rs) (hb : Below w.heap.size w w') : Heads w' lo A c rs := by
  obtain ⟨h1, ps, h2, h3, h4⟩ := h
  exact ⟨own_keep h1 hb, ps, h2.below hb, fun p hp => ⟨(h3 p hp).1, Nat.le_trans (h3 p hp).2 hb.size⟩, h4⟩
theorem Heads.alloc {w : World} {lo c : Nat} {A : Option Addr} {rs : List RowV} (h : Heads w lo A c rs) (o : Obj) : Heads (w.alloc o) lo A c rs := h.below (below1 w o)
theorem fresh_grown {w w' : World} {lo hi : Nat} {ty : TypeId} {A : Option Addr} {xs : List Value} {row : Option Nat} (hf : Fresh w lo hi ty A xs) (hg : w.grownBy w' row) (hd : ∀ g, row = some g → g < lo ∨ hi ≤ g) : Fresh w' lo hi ty A xs := by
  rcases hf with h | ⟨g, cs, hA, h1, h2, hw, h3, h4⟩
  · exact .inl h
  · refine .inr ⟨g, cs, hA, h1, h2, ?_, h3, h4⟩
    exact (hg.block g hw.lt (fun e => by have := hd g e.symm; omega)).trans hw
/-- A row more. -/
theorem Heads.push {w w1 w2 : World} {lo c cap g : Nat} {A : Option Addr} {rs : List RowV} {r : RowV} (h : Heads w lo A c rs) (hlo : lo ≤ w.heap.size) (hb : Below w.heap.size w w1) (hr : Fresh w1 w.heap.size w1.heap.size 3 r.A (nums r.xs)) (hl : r.xs.length = r.n) (hn : r.n ≤ 1048576)
    (hown : w2.ownsRow lo 39 1 (.slice (some ⟨g, 0, none⟩) (rs.length + 1) cap) (rs.length + 1) (rowVals rs ++ [r.val])) (hg : (w1.alloc (.cells #[r.val] 39)).grownBy w2 (Value.slice A rs.length c).ownBlock)
    (hat : (Value.slice A rs.length c).ownBlock = some g ∨ g = w1.heap.size + 1) : Heads w2 lo (some ⟨g, 0, none⟩) cap (rs ++ [r]) := by
  obtain ⟨h1, ps, ⟨k1, k2, k3⟩, h3, h4⟩ := h
  have hsz := hb.size
  have hsg : w1.heap.size + 1 ≤ w2.heap.size := by have := hg.size; simpa using this
  have hob : ∀ q, (Value.slice A rs.length c).ownBlock = some q → ∃ a : Addr, A = some a ∧ a.block = q ∧ q < w.heap.size := by
    intro q hq
    cases A with
    | none => simp [Value.ownBlock] at hq
    | some a => exact ⟨a, rfl, by simpa [Value.ownBlock] using hq, (h1.lt q hq).2⟩
  refine ⟨by rw [List.length_append]; show World.ownsRow _ _ _ _ _ _ _; simpa [rowVals] using hown, ps ++ [(w.heap.size, w1.heap.size)], ⟨by simp [k1], ?_, ?_⟩, ?_, ?_⟩
  · intro k r' p' hr' hp'
    rcases Nat.lt_or_ge k rs.length with hk | hk
    · rw [List.getElem?_append_left hk] at hr'
      rw [List.getElem?_append_left (by omega)] at hp'
      obtain ⟨f1, f2⟩ := k2 k r' p' hr' hp'
      have hm := List.mem_of_getElem? hp'
      refine ⟨fresh_grown ((f1.below hb).alloc _) hg fun q hq => ?_, f2⟩
      obtain ⟨a, hA, hq2, -⟩ := hob q hq
      have := h4 a hA p' hm
      omega
    · have hke : k = rs.length := by
        have := (List.getElem?_eq_some_iff.1 hr').1
        simp at this
        omega
      subst hke
      rw [List.getElem?_append_right (Nat.le_refl _)] at hr'
      rw [List.getElem?_append_right (by omega), k1] at hp'
      simp at hr' hp'
      subst hr' hp'
      exact ⟨fresh_grown (hr.alloc _) hg fun q hq => by obtain ⟨a, -, -, hlt⟩ := hob q hq; exact .inl hlt, hl, hn⟩
  · intro i j p p' hij hp hp'
    have hlen : ∀ {i : Nat} {p : Nat × Nat}, (ps ++ [(w.heap.size, w1.heap.size)])[i]? = some p → (i < ps.length ∧ ps[i]? = some p) ∨ (i = ps.length ∧ p = (w.heap.size, w1.heap.size)) := by
      intro i p hp
      rcases Nat.lt_or_ge i ps.length with hi | hi
      · rw [List.getElem?_append_left hi] at hp
        exact .inl ⟨hi, hp⟩
      · have hie : i = ps.length := by
          have := (List.getElem?_eq_some_iff.1 hp).1
          simp at this
          omega
        subst hie
        rw [List.getElem?_append_right (Nat.le_refl _)] at hp
        simp at hp
        exact .inr ⟨rfl, hp.symm⟩
    rcases hlen hp with ⟨hi, hp⟩ | ⟨hi, rfl⟩ <;> rcases hlen hp' with ⟨hj, hp'⟩ | ⟨hj, rfl⟩
    · exact k3 i j p p' hij hp hp'
    · exact .inl (h3 p (List.mem_of_getElem? hp)).2
    · exact .inr (h3 p' (List.mem_of_getElem? hp')).2
    · omega
  · intro p hp
    rcases List.mem_append.1 hp with hp | hp
    · exact ⟨(h3 p hp).1, by have := (h3 p hp).2; omega⟩
    · simp only [List.mem_singleton] at hp
      subst hp
      exact ⟨hlo, by show w1.heap.size ≤ _; omega⟩
  · intro a ha p hp
    obtain rfl : (⟨g, 0, none⟩ : Addr) = a := Option.some.inj ha
    show g < p.1 ∨ p.2 ≤ g
    rcases List.mem_append.1 hp with hp | hp
    · rcases hat with hat | hat
      · obtain ⟨a, hA, hq2, -⟩ := hob g hat
        have := h4 a hA p hp
        omega
      · have := (h3 p hp).2
        omega
    · simp only [List.mem_singleton] at hp
      subst hp
      show g < w.heap.size ∨ w1.heap.size ≤ g
      rcases hat with hat | hat
      · obtain ⟨-, -, -, hlt⟩ := hob g hat
        exact .inl hlt
      · omega
/-- What was made is the call's own, all of it. -/
theorem Heads.free {w : World} {lo c : Nat} {A : Option Addr} {rs : List RowV} (h : Heads w lo A c rs) : FreeGrid w lo w.heap.size A rs := by
  obtain ⟨h1, ps, h2, h3, h4⟩ := h
  refine ⟨ps, h2, h3, ?_⟩
  rcases own_some h1 with ⟨rfl, hn, -⟩ | ⟨g, rfl, -⟩
  · exact .inl (List.length_eq_zero_iff.1 hn)
  · obtain ⟨-, ⟨hv, -⟩ | ⟨g', cap, cur, hv, hb, hh, -, -, -, ht⟩⟩ := h1
    · simp at hv
    · obtain ⟨rfl, -⟩ : g = g' ∧ c = cap := by simpa using hv
      have hlt := (Array.getElem?_eq_some_iff.1 hh).1
      refine .inr ⟨g, 0, rfl, hlt, hb, hlt, fun p hp => h4 _ rfl p hp, fun j u hu => ?_⟩
      rw [Nat.zero_add, (show Whole w g 39 cur from hh).cell j]
      rw [← ht, List.getElem?_take] at hu
      split at hu
      · simpa using hu
      · simp at hu
/-- What a call hands back that makes a list of lists. -/
def RowsPost (ls : List (List Int)) (w : World) (e : Ending) (w' : World) : Prop :=
  ∃ (A : Option Addr) (c : Nat) (rs : List RowV), e = .returned (.slice A rs.length c) ∧ rowNums rs = ls ∧ FreeGrid w' w.heap.size w'.heap.size A rs ∧ Below w.heap.size w w'
end Go.Proofs.Ytcoagbcleccmmaa

namespace Go.Proofs.Ytcoagbcleccmmaa
open Go.RowKit

/-- A trip's cells. -/
def ptCells (t : Pt) : Array Value := #[.int .i64 t.1.1, .int .i64 t.1.2, .int .i64 t.2.1, .int .i64 t.2.2]
def ptsCells (ts : List Pt) : List Value := ts.flatMap fun t => (ptCells t).toList
theorem pts_app (a b : List Pt) : ptsCells (a ++ b) = ptsCells a ++ ptsCells b := List.flatMap_append
theorem pts_len (ts : List Pt) : (ptsCells ts).length = ts.length * 4 := by
  induction ts with
  | nil => rfl
  | cons t ts ih =>
    have h : ptsCells (t :: ts) = (ptCells t).toList ++ ptsCells ts := rfl
    rw [h, List.length_append, ih, List.length_cons]
    simp [ptCells]
    omega
theorem pts_one (ts : List Pt) : ∀ u ∈ ptsCells ts, u.oneCell' = true := by
  intro u hu
  simp only [ptsCells, List.mem_flatMap, ptCells, List.mem_cons, List.not_mem_nil, or_false] at hu
  obtain ⟨t, -, rfl | rfl | rfl | rfl⟩ := hu <;> rfl
theorem info_pt : (Try.prog.info? 131).map (fun i => (i.zero, i.size, i.bytes)) = some (some (.agg #[.int .i64 0, .int .i64 0, .int .i64 0, .int .i64 0]), 4, 32) := by kernel_rfl

set_option maxHeartbeats 1600000 in
theorem alone_any (x : Wk) (w : World) : Calls Try.prog 113 #[.agg #[.int .i64 x.1, .int .i64 x.2]] w fun e w' => e = .returned (.agg #[.int .i64 x.1, .int .i64 x.2, .int .i64 x.1, .int .i64 x.2]) ∧ Below w.heap.size w w' := by
  have hb := below2 w (.cells #[.int .i64 x.1, .int .i64 x.2] 123) (.cells #[.int .i64 0, .int .i64 0, .int .i64 0, .int .i64 0] 131)
  have HB := Lib.hid hb
  clear hb
  go_enter Try.func113, Try.ntmps113
  go_wp2
  exact bodyPost_ret (v := .agg #[.int .i64 x.1, .int .i64 x.2, .int .i64 x.1, .int .i64 x.2]) (by simp [results, Try.results113, go_sem]) rfl ⟨rfl, below2 w _ _⟩

theorem wpList_load_row_g {P : Program} {ops : Array Oper} {rest : List Oper} {o : Oper} {a : Act} {w : World} {Q : Exit → Act → World → Prop} (hw : Region.wanted o (yielded ops a.tmps) = true) (ty : TypeId) (x : Operand) (ho : o.op = .load ty x)
    (g : Nat) (hx : a.eval x = .pointer (some ⟨g, 0, none⟩)) (t : TypeId) (cs : Array Value) (fr : Nat × Nat) (d : TypeDesc) (hg : w.heap[g]? = some (.cells cs t fr))
    (hu : P.underlying ty = some d) (hd : (match d with | .struct _ | .array _ _ => true | _ => false) = true) (hi : (P.info? ty).map (·.size) = some cs.size)
    (h : wpList P ops Q rest (a.put o.dst (.agg cs)) w) : wpList P ops Q (o :: rest) a w :=
  BigFrame.wpList_want hw fun _ hK => wp_load_row ty x ho g hx t cs fr d hg hu hd hi (hK _ _ h)

theorem pts_news (w : World) (ts : List Pt) : ∀ j u, (ptsCells ts)[j]? = some u → (w.alloc (.cells (ptsCells ts).toArray 131)).cell? ((⟨w.heap.size, 0, none⟩ : Addr).add j) = some u := by
  have h := cells_fresh w 131 (ptsCells ts).toArray
  simpa using h
/-- What trips hands back. -/
def TripsPost (ts : List Pt) (w : World) (e : Ending) (w' : World) : Prop :=
  ∃ (E : Option Addr) (d : Nat), e = .returned (.slice E ts.length d) ∧ w'.ownsRow w.heap.size 131 4 (.slice E ts.length d) ts.length (ptsCells ts) ∧ Below w.heap.size w w'
/-- The trips under way while k are not over. -/
def TripsTo (f : Bool) (W : List Wk) (k lo : Nat) (wr : World) (v : Value) (acc : List Pt) : Prop :=
  ∃ (E : Option Addr) (d : Nat), v = .slice E acc.length d ∧ wr.ownsRow lo 131 4 (.slice E acc.length d) acc.length (ptsCells acc) ∧ acc ++ tripsT f W k = tripsT f W W.length
/-- Times that no sum of three makes too great. -/
def Mild (W : List Wk) : Prop := ∀ k, 0 ≤ (wk W k).2 ∧ (wk W k).2 ≤ 1000

/-- Four boxes, each with a person. -/
structure Four (wx : World) (p q r t : Nat) (a b y z : Wk) : Prop where
  pa : Whole wx p 123 #[.int .i64 a.1, .int .i64 a.2]
  qb : Whole wx q 123 #[.int .i64 b.1, .int .i64 b.2]
  ry : Whole wx r 123 #[.int .i64 y.1, .int .i64 y.2]
  tz : Whole wx t 123 #[.int .i64 z.1, .int .i64 z.2]
theorem Four.below {wx w' : World} {p q r t : Nat} {a b y z : Wk} (h : Four wx p q r t a b y z) (hb : Below wx.heap.size wx w') : Four w' p q r t a b y z := ⟨h.pa.below hb, h.qb.below hb, h.ry.below hb, h.tz.below hb⟩
theorem Four.keep {wx w' : World} {p q r t B : Nat} {a b y z : Wk} (h : Four wx p q r t a b y z) (hb : Below B wx w') (hp : p < B) (hq : q < B) (hr : r < B) (ht : t < B) : Four w' p q r t a b y z := ⟨h.pa.below' hb hp, h.qb.below' hb hq, h.ry.below' hb hr, h.tz.below' hb ht⟩
theorem Four.cells {wx : World} {p q r t : Nat} {a b y z : Wk} (h : Four wx p q r t a b y z) :
    (wx.cell? ⟨p, 0, none⟩ = some (.int .i64 a.1) ∧ wx.cell? ⟨p, 1, none⟩ = some (.int .i64 a.2)) ∧ (wx.cell? ⟨q, 0, none⟩ = some (.int .i64 b.1) ∧ wx.cell? ⟨q, 1, none⟩ = some (.int .i64 b.2)) ∧ (wx.cell? ⟨r, 0, none⟩ = some (.int .i64 y.1) ∧ wx.cell? ⟨r, 1, none⟩ = some (.int .i64 y.2)) ∧ (wx.cell? ⟨t, 0, none⟩ = some (.int .i64 z.1) ∧ wx.cell? ⟨t, 1, none⟩ = some (.int .i64 z.2)) :=
  ⟨⟨h.pa.two.1, h.pa.two.2.1⟩, ⟨h.qb.two.1, h.qb.two.2.1⟩, ⟨h.ry.two.1, h.ry.two.2.1⟩, h.tz.two.1, h.tz.two.2.1⟩
theorem four_grown {w w' : World} {p q r t : Nat} {a b y z : Wk} {row : Option Nat} (h : Four w p q r t a b y z) (hg : w.grownBy w' row) (hd : ∀ kk, row = some kk → kk ≠ p ∧ kk ≠ q ∧ kk ≠ r ∧ kk ≠ t) : Four w' p q r t a b y z :=
  ⟨(hg.block p h.pa.lt (fun e => (hd p e.symm).1 rfl)).trans h.pa, (hg.block q h.qb.lt (fun e => (hd q e.symm).2.1 rfl)).trans h.qb, (hg.block r h.ry.lt (fun e => (hd r e.symm).2.2.1 rfl)).trans h.ry, (hg.block t h.tz.lt (fun e => (hd t e.symm).2.2.2 rfl)).trans h.tz⟩
theorem tripsT_step (f : Bool) (W : List Wk) {k y : Nat} (h4 : 4 ≤ k) (hy : y + 2 = k) : tripsT f W k = round f W y ++ tripsT f W y := by
  obtain ⟨m, rfl⟩ : ∃ m, k = m + 4 := ⟨k - 4, by omega⟩
  obtain rfl : y = m + 2 := by omega
  rw [tripsT]

set_option maxHeartbeats 12800000 in
set_option maxRecDepth 100000 in
theorem trips_any (W : List Wk) (f : Bool) (w : World) (h1 : 1 ≤ W.length) (h12 : W.length ≤ 12) (hmild : Mild W) :
    Calls Try.prog 109 #[.agg (squadCells W W.length), .bool f] w (TripsPost (tripsT f W W.length) w) := by
  obtain ⟨i1, ri, rz0, rz1, rz2⟩ := info_parts info_pt
  have RI := Lib.hid ri
  have RZ0 := Lib.hid rz0
  have RZ1 := Lib.hid rz1
  have RZ2 := Lib.hid rz2
  have HTL := Lib.hid (trips_len f W W.length)
  have h0 := Whole.fresh w 126 (squadCells W W.length)
  have hb0 := below1 w (.cells (squadCells W W.length) 126)
  have a0 := (h0.cell 0).trans (squad_who W W.length (k := 0) (by omega))
  have a1 := (h0.cell 1).trans (squad_time W W.length (k := 0) (by omega))
  have b0 := (h0.cell 2).trans (squad_who W W.length (k := 1) (by omega))
  have b1 := (h0.cell 3).trans (squad_time W W.length (k := 1) (by omega))
  obtain ⟨W0, hW0⟩ : ∃ W0, W0 = w.alloc (.cells (squadCells W W.length) 126) := ⟨_, rfl⟩
  rw [← hW0] at h0 hb0 a0 a1 b0 b1
  have hl0 := h0.lt
  have HW0 := Lib.hid hW0
  have H0 := Lib.hid h0
  have HB0 := Lib.hid hb0
  have HMILD := Lib.hid hmild
  obtain ⟨a, hwa⟩ : ∃ a, a = wk W 0 := ⟨_, rfl⟩
  obtain ⟨b, hwb⟩ : ∃ b, b = wk W 1 := ⟨_, rfl⟩
  rw [← hwa] at a0 a1
  rw [← hwb] at b0 b1
  have HWA := Lib.hid hwa
  have HWB := Lib.hid hwb
  clear hW0 h0 hb0 hwa hwb hmild ri rz0 rz1 rz2
  go_enter Try.func109, Try.ntmps109
  go_wp2_with fail
  go_step3
  go_wp2_with fail
  go_cut [5, 6] from 11 to 16 (fun s5 s6 wx => TwoBoxes W0.heap.size a b W0 s5 s6 wx)
  case first =>
    rw [← HW0.out]
    have hn1 : ¬ W0.heap.size = w.heap.size := by omega
    have hn2 : ¬ W0.heap.size + 1 = w.heap.size := by omega
    have hn3 : ¬ w.heap.size = W0.heap.size := by omega
    have hn4 : ¬ w.heap.size = W0.heap.size + 1 := by omega
    go_region_held3 (fun w' => (w'.cell? ⟨w.heap.size, 0, none⟩ = some (.int .i64 a.1) ∧ w'.cell? ⟨w.heap.size, 1, none⟩ = some (.int .i64 a.2)) ∧ (w'.cell? ⟨w.heap.size, 2, none⟩ = some (.int .i64 b.1) ∧ w'.cell? ⟨w.heap.size, 3, none⟩ = some (.int .i64 b.2))) (go_keep) (fail)
    all_goals (go_wp2_with fail; go_meet)
    all_goals first | exact two_ab a b W0 | exact two_ba a b W0
  obtain ⟨W1, rfl⟩ : ∃ W1 : World, W1 = wc := ⟨_, rfl⟩
  obtain ⟨p, q, rfl, rfl, hp, hq, hpq, hwp, hwq, hb⟩ := hcut
  have HQ1 := Lib.hid (H0.out.below hb)
  have HP1 := Lib.hid hwp
  have HR1 := Lib.hid hwq
  have HB1 := Lib.hid (below_then HB0.out hb HB0.out.size)
  have hpl := hwp.lt
  have hql := hwq.lt
  have hgl : w.heap.size < W1.heap.size := by have := hb.size; omega
  have h24 := (HQ1.out.cell 24).trans (squad_n _ _)
  clear hwp hwq hb a0 a1 b0 b1
  go_wp2_with fail
  go_step3
  go_wp2_with fail
  clear h24
  go_loopw [7, 8] (fun l v wr => ∃ (k : Nat) (acc : List Pt), 1 ≤ k ∧ k ≤ W.length ∧ l = .int .i64 k ∧ TripsTo f W k W1.heap.size wr v acc ∧ Below W1.heap.size W1 wr) (fun l _ _ => (intOf l).toNat)
  case atStart => exact ⟨W.length, [], h1, Nat.le_refl _, rfl, ⟨none, 0, rfl, World.ownsRow_nil _ _ _ _, rfl⟩, Below.refl _ _⟩
  case round =>
    obtain ⟨k, acc, hk1, hkn, rfl, ⟨E, d, rfl, hown, hacc⟩, hb⟩ := hrel
    have hwz : W1.heap.size ≤ wr.heap.size := hb.size
    have hpw := HP1.out.below hb
    have hqw := HR1.out.below hb
    have hsw := HQ1.out.below hb
    have hal : acc.length ≤ 24 := by
      have h := congrArg List.length hacc
      have := HTL.out
      simp at h
      omega
    obtain ⟨p0, p1, -, -⟩ := hpw.two
    obtain ⟨q0, q1, -, -⟩ := hqw.two
    have HSW := Lib.hid hsw
    have HPW := Lib.hid hpw
    have HQW := Lib.hid hqw
    have HO := Lib.hid hown
    have HB := Lib.hid hb
    by_cases e1 : k = 1
    · subst e1
      have HACC : Hid (acc ++ [(a, a)] = tripsT f W W.length) := by show _ = _; rw [← hacc, HWA.out]; rfl
      clear hpw hqw hsw hown hacc hb
      go_wp2_with fail
      refine (alone_any a _).mono ?_
      rintro e w2 ⟨rfl, hb2⟩
      have hs2 : wr.heap.size ≤ w2.heap.size := hb2.size
      have HO2 := Lib.hid (own_below HO.out hb2)
      have HB2 := Lib.hid (below_then HB.out hb2 hwz)
      clear hb2
      have HOW := Lib.hid (HO2.out.alloc (.cells (ptsCells [(a, a)]).toArray 131))
      have HBB := Lib.hid (HB2.out.alloc (Nat.le_trans hwz hs2) (.cells (ptsCells [(a, a)]).toArray 131))
      have hnew : ∀ j u, (ptsCells [(a, a)])[j]? = some u → (w2.alloc (.cells (ptsCells [(a, a)]).toArray 131)).cell? ((⟨w2.heap.size, 0, none⟩ : Addr).add j) = some u := by
        have h := cells_fresh w2 131 (ptsCells [(a, a)]).toArray
        simpa using h
      have HNEW := Lib.hid hnew
      clear hnew
      have HLN := Lib.hid (pts_len [(a, a)])
      have HMX := Lib.hid (show acc.length + 1 ≤ maxLen by unfold maxLen; omega)
      have HBY := Lib.hid (show (acc.length + 1) * 32 ≤ 140737488355328 by omega)
      have HBS := Lib.hid (show W1.heap.size ≤ (w2.alloc (.cells (ptsCells [(a, a)]).toArray 131)).heap.size by simp; omega)
      go_wp2_with (at_builtin; refine wpList_append_lies _ rfl (.tmp 22) (.tmp 25) 111 rfl W1.heap.size 131 i1 (.agg #[.int .i64 0, .int .i64 0, .int .i64 0, .int .i64 0]) 4 32 Try.underlying111 RI.out RZ0.out RZ1.out RZ2.out rfl (by decide) (.slice E acc.length d) acc.length (ptsCells acc) rfl HOW.out ⟨w2.heap.size, 0, none⟩ 1 1 (ptsCells [(a, a)]) rfl HLN.out HNEW.out (pts_one _) (by decide) HMX.out HBY.out HBS.out (w2.heap.size + 1) (by simp) ?_; intro g3 c3 w3 hown3 hg3 hat3 hlt3)
      have hbf : Below W1.heap.size W1 w3 := HBB.out.grown hg3 HBS.out (fun kk e => (HOW.out.lt kk e).1)
      have HBF := Lib.hid (HB1.out.trans (hbf.mono (Nat.le_trans (Nat.le_of_lt hgl) (Nat.le_refl _))))
      have hof : w3.ownsRow w.heap.size 131 4 (.slice (some ⟨g3, 0, none⟩) (acc.length + 1) c3) (acc.length + 1) (ptsCells (tripsT f W W.length)) := by
        rw [← HACC.out, pts_app]
        exact own_lower hown3 (Nat.le_of_lt hgl)
      have HOF := Lib.hid hof
      have HLF : Hid ((tripsT f W W.length).length = acc.length + 1) := by show _ = _; rw [← HACC.out]; simp
      clear hbf hof hown3 hg3 hat3 hlt3
      go_wp2
      rw [Exit.noGoto_ret]
      go_ret
      exact ⟨some ⟨g3, 0, none⟩, c3, by rw [HLF.out]; rfl, by rw [HLF.out]; exact HOF.out, HBF.out⟩
    by_cases e2 : k = 2
    · subst e2
      have HACC : Hid (acc ++ [(a, b)] = tripsT f W W.length) := by show _ = _; rw [← hacc, HWA.out, HWB.out]; rfl
      clear hpw hqw hsw hown hacc hb
      have HOW := Lib.hid (HO.out.alloc (.cells (ptsCells [(a, b)]).toArray 131))
      have HBB := Lib.hid (HB.out.alloc hwz (.cells (ptsCells [(a, b)]).toArray 131))
      have hnew : ∀ j u, (ptsCells [(a, b)])[j]? = some u → (wr.alloc (.cells (ptsCells [(a, b)]).toArray 131)).cell? ((⟨wr.heap.size, 0, none⟩ : Addr).add j) = some u := by
        have h := cells_fresh wr 131 (ptsCells [(a, b)]).toArray
        simpa using h
      have HNEW := Lib.hid hnew
      clear hnew
      have HLN := Lib.hid (pts_len [(a, b)])
      have HMX := Lib.hid (show acc.length + 1 ≤ maxLen by unfold maxLen; omega)
      have HBY := Lib.hid (show (acc.length + 1) * 32 ≤ 140737488355328 by omega)
      have HBS := Lib.hid (show W1.heap.size ≤ (wr.alloc (.cells (ptsCells [(a, b)]).toArray 131)).heap.size by simp; omega)
      go_wp2_with (at_builtin; refine wpList_append_lies _ rfl (.tmp 29) (.tmp 33) 111 rfl W1.heap.size 131 i1 (.agg #[.int .i64 0, .int .i64 0, .int .i64 0, .int .i64 0]) 4 32 Try.underlying111 RI.out RZ0.out RZ1.out RZ2.out rfl (by decide) (.slice E acc.length d) acc.length (ptsCells acc) rfl HOW.out ⟨wr.heap.size, 0, none⟩ 1 1 (ptsCells [(a, b)]) rfl HLN.out HNEW.out (pts_one _) (by decide) HMX.out HBY.out HBS.out (wr.heap.size + 1) (by simp) ?_; intro g3 c3 w3 hown3 hg3 hat3 hlt3)
      have hbf : Below W1.heap.size W1 w3 := HBB.out.grown hg3 HBS.out (fun kk e => (HOW.out.lt kk e).1)
      have HBF := Lib.hid (HB1.out.trans (hbf.mono (Nat.le_trans (Nat.le_of_lt hgl) (Nat.le_refl _))))
      have hof : w3.ownsRow w.heap.size 131 4 (.slice (some ⟨g3, 0, none⟩) (acc.length + 1) c3) (acc.length + 1) (ptsCells (tripsT f W W.length)) := by
        rw [← HACC.out, pts_app]
        exact own_lower hown3 (Nat.le_of_lt hgl)
      have HOF := Lib.hid hof
      have HLF : Hid ((tripsT f W W.length).length = acc.length + 1) := by show _ = _; rw [← HACC.out]; simp
      clear hbf hof hown3 hg3 hat3 hlt3
      go_wp2
      rw [Exit.noGoto_ret]
      go_ret
      exact ⟨some ⟨g3, 0, none⟩, c3, by rw [HLF.out]; rfl, by rw [HLF.out]; exact HOF.out, HBF.out⟩
    by_cases e3 : k = 3
    · subst e3
      obtain ⟨c, hc⟩ : ∃ c, c = wk W 2 := ⟨_, rfl⟩
      have HWC := Lib.hid hc
      have HACC : Hid (acc ++ [(a, b), (a, a), (a, c)] = tripsT f W W.length) := by show _ = _; rw [← hacc, HWA.out, HWB.out, hc]; rfl
      have c4 := (hsw.cell 4).trans (squad_who W W.length (k := 2) (by omega))
      have c5 := (hsw.cell 5).trans (squad_time W W.length (k := 2) (by omega))
      rw [← hc] at c4 c5
      clear hpw hqw hsw hown hacc hb hc
      go_wp2_with fail
      go_region_held3 (fun w' => (w'.cell? ⟨p, 0, none⟩ = some (.int .i64 a.1) ∧ w'.cell? ⟨p, 1, none⟩ = some (.int .i64 a.2)) ∧ (w'.cell? ⟨q, 0, none⟩ = some (.int .i64 b.1) ∧ w'.cell? ⟨q, 1, none⟩ = some (.int .i64 b.2)) ∧ (w'.cell? ⟨w.heap.size, 4, none⟩ = some (.int .i64 c.1) ∧ w'.cell? ⟨w.heap.size, 5, none⟩ = some (.int .i64 c.2))) (go_keep)
        (first | (go_at_call 113; refine (alone_any a _).mono ?_; rintro e w2 ⟨rfl, hb2⟩; have hs2 : wr.heap.size ≤ w2.heap.size := hb2.size; have hp2 := HPW.out.drew.below hb2; have hq2 := HQW.out.drew.below hb2; have hs22 := HSW.out.drew.below hb2; obtain ⟨r0, r1, -, -⟩ := hp2.two; obtain ⟨t0, t1, -, -⟩ := hq2.two; have d4 := (hs22.cell 4).trans (squad_who W W.length (k := 2) (by omega)); have d5 := (hs22.cell 5).trans (squad_time W W.length (k := 2) (by omega)); rw [← HWC.out] at d4 d5; have HO2 := Lib.hid (own_below (own_below HO.out (Below.refl wr.heap.size wr).drew) hb2); have HB2 := Lib.hid (below_then HB.out.drew hb2 hwz); have HOW := Lib.hid (HO2.out.alloc (.cells (ptsCells [(a, b), (a, a), (a, c)]).toArray 131)); have HBB := Lib.hid (HB2.out.alloc (Nat.le_trans hwz hs2) (.cells (ptsCells [(a, b), (a, a), (a, c)]).toArray 131)); have HNEW := Lib.hid (pts_news w2 [(a, b), (a, a), (a, c)]); have HLN := Lib.hid (pts_len [(a, b), (a, a), (a, c)]); have HMX := Lib.hid (show acc.length + 3 ≤ maxLen from (by unfold maxLen; omega)); have HBY := Lib.hid (show (acc.length + 3) * 32 ≤ 140737488355328 from (by omega)); have HBS := Lib.hid (show W1.heap.size ≤ (w2.alloc (.cells (ptsCells [(a, b), (a, a), (a, c)]).toArray 131)).heap.size from (by simp; omega)); clear hb2 hp2 hq2 hs22) | (refine step_append_lies _ rfl (.tmp 37) (.tmp 48) 111 rfl W1.heap.size 131 i1 (.agg #[.int .i64 0, .int .i64 0, .int .i64 0, .int .i64 0]) 4 32 Try.underlying111 RI.out RZ0.out RZ1.out RZ2.out rfl (by decide) (.slice E acc.length d) acc.length (ptsCells acc) (by simp [Act.eval]) HOW.out ⟨w2.heap.size, 0, none⟩ 3 3 (ptsCells [(a, b), (a, a), (a, c)]) (by simp [Act.eval]) HLN.out HNEW.out (pts_one _) (by decide) HMX.out HBY.out HBS.out (w2.heap.size + 1) (by simp) ?_; intro g3 c3 w3 hown3 hg3 hat3 hlt3; have hbf : Below W1.heap.size W1 w3 := HBB.out.grown hg3 HBS.out (fun kk e => (HOW.out.lt kk e).1); have HBF := Lib.hid hbf; have HG3 := Lib.hid hown3; obtain ⟨u0, u1, -, -⟩ := (HP1.out.below hbf).two; obtain ⟨v0, v1, -, -⟩ := (HR1.out.below hbf).two; have f4 := ((HQ1.out.below hbf).cell 4).trans (squad_who W W.length (k := 2) (by omega)); have f5 := ((HQ1.out.below hbf).cell 5).trans (squad_time W W.length (k := 2) (by omega)); rw [← HWC.out] at f4 f5; clear hbf hown3 hg3 hat3) | fail)
      have HBG := Lib.hid (HB1.out.trans (HBF.out.mono (Nat.le_of_lt hgl)))
      have hof : w3.ownsRow w.heap.size 131 4 (.slice (some ⟨g3, 0, none⟩) (acc.length + 3) c3) (acc.length + 3) (ptsCells (tripsT f W W.length)) := by
        rw [← HACC.out, pts_app]
        exact own_lower HG3.out (Nat.le_of_lt hgl)
      have HOF := Lib.hid hof
      have HLF : Hid ((tripsT f W W.length).length = acc.length + 3) := by show _ = _; rw [← HACC.out]; simp
      clear hof
      go_wp2
      rw [Exit.noGoto_ret]
      go_ret
      exact ⟨some ⟨g3, 0, none⟩, c3, by rw [HLF.out]; rfl, by rw [HLF.out]; exact HOF.out, HBG.out⟩
    have hk4 : 4 ≤ k := by omega
    obtain ⟨y, hky⟩ : ∃ y, y + 2 = k := ⟨k - 2, by omega⟩
    obtain ⟨z, hkz⟩ : ∃ z, z + 1 = k := ⟨k - 1, by omega⟩
    have hs2 : (k : Int) - 2 = (y : Int) := by omega
    have hs1 : (k : Int) - 1 = (z : Int) := by omega
    have hw2 : IntKind.i64.wrap ((k : Int) - 2) = (y : Int) := by rw [hs2]; exact IntWalk.i64_in _ (by omega)
    have hw1 : IntKind.i64.wrap ((k : Int) - 1) = (z : Int) := by rw [hs1]; exact IntWalk.i64_in _ (by omega)
    have hwy : IntKind.i64.wrap (y : Int) = (y : Int) := IntWalk.i64_in _ (by omega)
    have hwz' : IntKind.i64.wrap (z : Int) = (z : Int) := IntWalk.i64_in _ (by omega)
    have hb1 : ((k : Int) == 1) = false := by simp; omega
    have hb2 : ((k : Int) == 2) = false := by simp; omega
    have hb3 : ((k : Int) == 3) = false := by simp; omega
    have hy0 : (0 : Int) ≤ (y : Int) := by omega
    have hz0 : (0 : Int) ≤ (z : Int) := by omega
    have hy12 : (y : Int) < 12 := by omega
    have hz12 : (z : Int) < 12 := by omega
    have HZY : Hid (z = y + 1) := by show _ = _; omega
    have HACC : Hid (acc ++ (round f W y ++ tripsT f W y) = tripsT f W W.length) := by show _ = _; rw [← tripsT_step f W hk4 hky]; exact hacc
    have hY0 := (hsw.cell (2 * y)).trans (squad_who W W.length (k := y) (by omega))
    have hY1 := (hsw.cell (2 * y + 1)).trans (squad_time W W.length (k := y) (by omega))
    have hZ0 := (hsw.cell (2 * z)).trans (squad_who W W.length (k := z) (by omega))
    have hZ1 := (hsw.cell (2 * z + 1)).trans (squad_time W W.length (k := z) (by omega))
    rw [show 2 * y = y * 2 from Nat.mul_comm _ _] at hY0 hY1
    rw [show 2 * z = z * 2 from Nat.mul_comm _ _] at hZ0 hZ1
    obtain ⟨Y, hY⟩ : ∃ Y, Y = wk W y := ⟨_, rfl⟩
    obtain ⟨Z, hZ⟩ : ∃ Z, Z = wk W z := ⟨_, rfl⟩
    rw [← hY] at hY0 hY1
    rw [← hZ] at hZ0 hZ1
    have HY := Lib.hid hY
    have HZ := Lib.hid hZ
    have HKY := Lib.hid hky
    have hyk : y < k := by omega
    have hy2 : 2 ≤ y := by omega
    have hyn : y ≤ W.length := by omega
    clear hpw hqw hsw hown hacc hb hky hkz hY hZ e1 e2 e3
    go_wp2_with fail
    go_cut [9, 10] from 50 to 59 (fun s9 s10 wx => TwoBoxes wr.heap.size Y Z wr s9 s10 wx)
    case first =>
      have hn1 : ¬ wr.heap.size = w.heap.size := by omega
      have hn2 : ¬ wr.heap.size + 1 = w.heap.size := by omega
      have hn3 : ¬ w.heap.size = wr.heap.size := by omega
      have hn4 : ¬ w.heap.size = wr.heap.size + 1 := by omega
      go_region_held3 (fun w' => (w'.cell? ⟨w.heap.size, y * 2, none⟩ = some (.int .i64 Y.1) ∧ w'.cell? ⟨w.heap.size, y * 2 + 1, none⟩ = some (.int .i64 Y.2)) ∧ (w'.cell? ⟨w.heap.size, z * 2, none⟩ = some (.int .i64 Z.1) ∧ w'.cell? ⟨w.heap.size, z * 2 + 1, none⟩ = some (.int .i64 Z.2))) (go_keep) (fail)
      all_goals (go_wp2_with fail; go_meet)
      all_goals first | exact two_ab Y Z wr | exact two_ba Y Z wr
    case rest =>
      obtain ⟨w5, rfl⟩ : ∃ w5 : World, w5 = wc := ⟨_, rfl⟩
      obtain ⟨r, t, rfl, rfl, hr, ht, hrt, hwr, hwt, hb⟩ := hcut
      have H45 := Lib.hid (Four.mk (HPW.out.below hb) (HQW.out.below hb) hwr hwt)
      have HS5 := Lib.hid (HSW.out.below hb)
      have HO5 := Lib.hid (own_below HO.out hb)
      have HB5 := Lib.hid (below_then HB.out hb hwz)
      have hz5 : W1.heap.size ≤ w5.heap.size := Nat.le_trans hwz hb.size
      have HFAR : Hid (∀ kk, (Value.slice E acc.length d).ownBlock = some kk → kk ≠ p ∧ kk ≠ q ∧ kk ≠ r ∧ kk ≠ t) := fun kk e => by
        have := HO.out.lt kk e
        omega
      clear hwr hwt hb hY0 hY1 hZ0 hZ1
      cases f
      · have HAC : Hid (acc ++ ([(a, Z), (a, a), (a, Y), (a, a)] ++ tripsT false W y) = tripsT false W W.length) := by show _ = _; rw [← HACC.out, HWA.out, HY.out, HZ.out, HZY.out]; rfl
        obtain ⟨⟨i0, i1'⟩, ⟨i2, i3⟩, ⟨i4, i5⟩, i6, i7⟩ := H45.out.cells
        go_wp2_with fail
        go_region_held3 (fun w' => (w'.cell? ⟨p, 0, none⟩ = some (.int .i64 a.1) ∧ w'.cell? ⟨p, 1, none⟩ = some (.int .i64 a.2)) ∧ (w'.cell? ⟨q, 0, none⟩ = some (.int .i64 b.1) ∧ w'.cell? ⟨q, 1, none⟩ = some (.int .i64 b.2)) ∧ (w'.cell? ⟨r, 0, none⟩ = some (.int .i64 Y.1) ∧ w'.cell? ⟨r, 1, none⟩ = some (.int .i64 Y.2)) ∧ (w'.cell? ⟨t, 0, none⟩ = some (.int .i64 Z.1) ∧ w'.cell? ⟨t, 1, none⟩ = some (.int .i64 Z.2))) (go_keep)
          (first | (go_at_call 113; refine (alone_any a _).mono ?_; rintro e w7 ⟨rfl, hb7⟩; have hs7 : w6.heap.size ≤ w7.heap.size := hb7.size; have H47 := Lib.hid (H46.out.below hb7); obtain ⟨⟨l0, l1⟩, ⟨l2, l3⟩, ⟨l4, l5⟩, l6, l7⟩ := H47.out.cells; have HO7 := Lib.hid (own_below HO6.out hb7); have HB7 := Lib.hid (below_then HB6.out hb7 (Nat.le_trans hz5 hs6)); have HOW := Lib.hid (HO7.out.alloc (.cells (ptsCells [(a, Z), (a, a), (a, Y), (a, a)]).toArray 131)); have HBB := Lib.hid (HB7.out.alloc (Nat.le_trans hz5 (Nat.le_trans hs6 hs7)) (.cells (ptsCells [(a, Z), (a, a), (a, Y), (a, a)]).toArray 131)); have HNEW := Lib.hid (pts_news w7 [(a, Z), (a, a), (a, Y), (a, a)]); have HLN := Lib.hid (pts_len [(a, Z), (a, a), (a, Y), (a, a)]); have HMX := Lib.hid (show acc.length + 4 ≤ maxLen from (by unfold maxLen; omega)); have HBY := Lib.hid (show (acc.length + 4) * 32 ≤ 140737488355328 from (by omega)); have HBS := Lib.hid (show W1.heap.size ≤ (w7.alloc (.cells (ptsCells [(a, Z), (a, a), (a, Y), (a, a)]).toArray 131)).heap.size from (by simp; omega)); clear hb7) | (go_at_call 113; refine (alone_any a _).mono ?_; rintro e w6 ⟨rfl, hb6⟩; have hs6 : w5.heap.size ≤ w6.heap.size := hb6.size; have H46 := Lib.hid ((H45.out.below (Below.refl w5.heap.size w5).drew).below hb6); obtain ⟨⟨j0, j1⟩, ⟨j2, j3⟩, ⟨j4, j5⟩, j6, j7⟩ := H46.out.cells; have HO6 := Lib.hid (own_below (own_below HO5.out (Below.refl w5.heap.size w5).drew) hb6); have HB6 := Lib.hid (below_then HB5.out.drew hb6 hz5); clear hb6) | (refine step_append_lies _ rfl (.tmp 80) (.tmp 91) 111 rfl W1.heap.size 131 i1 (.agg #[.int .i64 0, .int .i64 0, .int .i64 0, .int .i64 0]) 4 32 Try.underlying111 RI.out RZ0.out RZ1.out RZ2.out rfl (by decide) (.slice E acc.length d) acc.length (ptsCells acc) (by simp [Act.eval]) HOW.out ⟨w7.heap.size, 0, none⟩ 4 4 (ptsCells [(a, Z), (a, a), (a, Y), (a, a)]) (by simp [Act.eval]) HLN.out HNEW.out (pts_one _) (by decide) HMX.out HBY.out HBS.out (w7.heap.size + 1) (by simp) ?_; intro g3 c3 w3 hown3 hg3 hat3 hlt3; have HBF := Lib.hid (HBB.out.grown hg3 HBS.out (fun kk e => (HOW.out.lt kk e).1)); have HG3 := Lib.hid hown3; have H48 := Lib.hid (four_grown (H47.out.below (below1 w7 _)) hg3 (fun kk e => HFAR.out kk e)); obtain ⟨⟨m0, m1⟩, ⟨m2, m3⟩, ⟨m4, m5⟩, m6, m7⟩ := H48.out.cells; clear hown3 hg3 hat3) | fail)
        have HLA : Hid ((acc ++ [(a, Z), (a, a), (a, Y), (a, a)]).length = acc.length + 4) := by show _ = _; simp
        go_wp2
        go_roundw
        case rel => exact ⟨y, acc ++ [(a, Z), (a, a), (a, Y), (a, a)], by omega, hyn, by go_num, ⟨some ⟨g3, 0, none⟩, c3, by rw [HLA.out], by rw [HLA.out, pts_app]; exact HG3.out, by rw [List.append_assoc]; exact HAC.out⟩, HBF.out⟩
        case measure => simp [intOf]; omega
      · obtain ⟨⟨i0, i1'⟩, ⟨i2, i3⟩, ⟨i4, i5⟩, i6, i7⟩ := H45.out.cells
        go_wp2_with (refine wpList_load_row_g rfl 126 (.tmp 2) rfl w.heap.size rfl 126 (squadCells W W.length) (0, 0) _ HS5.out Try.underlying126 rfl size_squad ?_)
        have hm0 := HMILD.out 0
        have hm1 := HMILD.out 1
        have hmy := HMILD.out y
        refine (fetchGain_any W Y w5 hm0.1 hm0.2 hm1.1 hm1.2 (by rw [HY.out]; exact hmy.1) (by rw [HY.out]; exact hmy.2)).mono ?_
        rintro e w4 ⟨rfl, hb⟩
        clear hm0 hm1 hmy i0 i1' i2 i3 i4 i5 i6 i7
        have hg0 : (wk W 0).2 + Y.2 - 2 * (wk W 1).2 = gainOf W y := by rw [HY.out]; rfl
        rw [hg0]
        clear hg0
        have H44 := Lib.hid (H45.out.below hb)
        have HO4 := Lib.hid (own_below HO5.out hb)
        have HB4 := Lib.hid (below_then HB5.out hb hz5)
        have hz4 : W1.heap.size ≤ w4.heap.size := Nat.le_trans hz5 hb.size
        clear hb H45 HO5 HB5 hz5 HS5
        have H45 := H44
        have HO5 := HO4
        have HB5 := HB4
        have hz5 := hz4
        clear H44 HO4 HB4 hz4
        obtain ⟨w5, rfl⟩ : ∃ w5 : World, w5 = w4 := ⟨_, rfl⟩
        obtain ⟨⟨i0, i1'⟩, ⟨i2, i3⟩, ⟨i4, i5⟩, i6, i7⟩ := H45.out.cells
        generalize hge : gainOf W y = gn
        by_cases hgp : 0 < gn
        · have HAC : Hid (acc ++ ([(a, b), (a, a), (Y, Z), (b, b)] ++ tripsT true W y) = tripsT true W W.length) := by show _ = _; rw [← HACC.out, HWA.out, HWB.out, HY.out, HZ.out, HZY.out, round, if_pos (by rw [hge]; simp [hgp])]
          have hgd : decide (0 < gn) = true := by simp [hgp]
          clear hge
          go_wp2_with fail
          go_region_held3 (fun w' => (w'.cell? ⟨p, 0, none⟩ = some (.int .i64 a.1) ∧ w'.cell? ⟨p, 1, none⟩ = some (.int .i64 a.2)) ∧ (w'.cell? ⟨q, 0, none⟩ = some (.int .i64 b.1) ∧ w'.cell? ⟨q, 1, none⟩ = some (.int .i64 b.2)) ∧ (w'.cell? ⟨r, 0, none⟩ = some (.int .i64 Y.1) ∧ w'.cell? ⟨r, 1, none⟩ = some (.int .i64 Y.2)) ∧ (w'.cell? ⟨t, 0, none⟩ = some (.int .i64 Z.1) ∧ w'.cell? ⟨t, 1, none⟩ = some (.int .i64 Z.2))) (go_keep)
          (first | (go_at_call 113; refine (alone_any b _).mono ?_; rintro e w7 ⟨rfl, hb7⟩; have hs7 : w6.heap.size ≤ w7.heap.size := hb7.size; have H47 := Lib.hid (H46.out.below hb7); obtain ⟨⟨l0, l1⟩, ⟨l2, l3⟩, ⟨l4, l5⟩, l6, l7⟩ := H47.out.cells; have HO7 := Lib.hid (own_below HO6.out hb7); have HB7 := Lib.hid (below_then HB6.out hb7 (Nat.le_trans hz5 hs6)); have HOW := Lib.hid (HO7.out.alloc (.cells (ptsCells [(a, b), (a, a), (Y, Z), (b, b)]).toArray 131)); have HBB := Lib.hid (HB7.out.alloc (Nat.le_trans hz5 (Nat.le_trans hs6 hs7)) (.cells (ptsCells [(a, b), (a, a), (Y, Z), (b, b)]).toArray 131)); have HNEW := Lib.hid (pts_news w7 [(a, b), (a, a), (Y, Z), (b, b)]); have HLN := Lib.hid (pts_len [(a, b), (a, a), (Y, Z), (b, b)]); have HMX := Lib.hid (show acc.length + 4 ≤ maxLen from (by unfold maxLen; omega)); have HBY := Lib.hid (show (acc.length + 4) * 32 ≤ 140737488355328 from (by omega)); have HBS := Lib.hid (show W1.heap.size ≤ (w7.alloc (.cells (ptsCells [(a, b), (a, a), (Y, Z), (b, b)]).toArray 131)).heap.size from (by simp; omega)); clear hb7) | (go_at_call 113; refine (alone_any a _).mono ?_; rintro e w6 ⟨rfl, hb6⟩; have hs6 : w5.heap.size ≤ w6.heap.size := hb6.size; have H46 := Lib.hid ((H45.out.below (Below.refl w5.heap.size w5).drew).below hb6); obtain ⟨⟨j0, j1⟩, ⟨j2, j3⟩, ⟨j4, j5⟩, j6, j7⟩ := H46.out.cells; have HO6 := Lib.hid (own_below (own_below HO5.out (Below.refl w5.heap.size w5).drew) hb6); have HB6 := Lib.hid (below_then HB5.out.drew hb6 hz5); clear hb6) | (refine step_append_lies _ rfl (.tmp 67) (.tmp 78) 111 rfl W1.heap.size 131 i1 (.agg #[.int .i64 0, .int .i64 0, .int .i64 0, .int .i64 0]) 4 32 Try.underlying111 RI.out RZ0.out RZ1.out RZ2.out rfl (by decide) (.slice E acc.length d) acc.length (ptsCells acc) (by simp [Act.eval]) HOW.out ⟨w7.heap.size, 0, none⟩ 4 4 (ptsCells [(a, b), (a, a), (Y, Z), (b, b)]) (by simp [Act.eval]) HLN.out HNEW.out (pts_one _) (by decide) HMX.out HBY.out HBS.out (w7.heap.size + 1) (by simp) ?_; intro g3 c3 w3 hown3 hg3 hat3 hlt3; have HBF := Lib.hid (HBB.out.grown hg3 HBS.out (fun kk e => (HOW.out.lt kk e).1)); have HG3 := Lib.hid hown3; have H48 := Lib.hid (four_grown (H47.out.below (below1 w7 _)) hg3 (fun kk e => HFAR.out kk e)); obtain ⟨⟨m0, m1⟩, ⟨m2, m3⟩, ⟨m4, m5⟩, m6, m7⟩ := H48.out.cells; clear hown3 hg3 hat3) | fail)
          have HLA : Hid ((acc ++ [(a, b), (a, a), (Y, Z), (b, b)]).length = acc.length + 4) := by show _ = _; simp
          go_wp2
          go_roundw
          case rel => exact ⟨y, acc ++ [(a, b), (a, a), (Y, Z), (b, b)], by omega, hyn, by go_num, ⟨some ⟨g3, 0, none⟩, c3, by rw [HLA.out], by rw [HLA.out, pts_app]; exact HG3.out, by rw [List.append_assoc]; exact HAC.out⟩, HBF.out⟩
          case measure => simp [intOf]; omega
        · have HAC : Hid (acc ++ ([(a, Z), (a, a), (a, Y), (a, a)] ++ tripsT true W y) = tripsT true W W.length) := by show _ = _; rw [← HACC.out, HWA.out, HY.out, HZ.out, HZY.out, round, if_neg (by rw [hge]; simp; omega)]
          have hgd : decide (0 < gn) = false := by simp; omega
          clear hge
          go_wp2_with fail
          go_region_held3 (fun w' => (w'.cell? ⟨p, 0, none⟩ = some (.int .i64 a.1) ∧ w'.cell? ⟨p, 1, none⟩ = some (.int .i64 a.2)) ∧ (w'.cell? ⟨q, 0, none⟩ = some (.int .i64 b.1) ∧ w'.cell? ⟨q, 1, none⟩ = some (.int .i64 b.2)) ∧ (w'.cell? ⟨r, 0, none⟩ = some (.int .i64 Y.1) ∧ w'.cell? ⟨r, 1, none⟩ = some (.int .i64 Y.2)) ∧ (w'.cell? ⟨t, 0, none⟩ = some (.int .i64 Z.1) ∧ w'.cell? ⟨t, 1, none⟩ = some (.int .i64 Z.2))) (go_keep)
          (first | (go_at_call 113; refine (alone_any a _).mono ?_; rintro e w7 ⟨rfl, hb7⟩; have hs7 : w6.heap.size ≤ w7.heap.size := hb7.size; have H47 := Lib.hid (H46.out.below hb7); obtain ⟨⟨l0, l1⟩, ⟨l2, l3⟩, ⟨l4, l5⟩, l6, l7⟩ := H47.out.cells; have HO7 := Lib.hid (own_below HO6.out hb7); have HB7 := Lib.hid (below_then HB6.out hb7 (Nat.le_trans hz5 hs6)); have HOW := Lib.hid (HO7.out.alloc (.cells (ptsCells [(a, Z), (a, a), (a, Y), (a, a)]).toArray 131)); have HBB := Lib.hid (HB7.out.alloc (Nat.le_trans hz5 (Nat.le_trans hs6 hs7)) (.cells (ptsCells [(a, Z), (a, a), (a, Y), (a, a)]).toArray 131)); have HNEW := Lib.hid (pts_news w7 [(a, Z), (a, a), (a, Y), (a, a)]); have HLN := Lib.hid (pts_len [(a, Z), (a, a), (a, Y), (a, a)]); have HMX := Lib.hid (show acc.length + 4 ≤ maxLen from (by unfold maxLen; omega)); have HBY := Lib.hid (show (acc.length + 4) * 32 ≤ 140737488355328 from (by omega)); have HBS := Lib.hid (show W1.heap.size ≤ (w7.alloc (.cells (ptsCells [(a, Z), (a, a), (a, Y), (a, a)]).toArray 131)).heap.size from (by simp; omega)); clear hb7) | (go_at_call 113; refine (alone_any a _).mono ?_; rintro e w6 ⟨rfl, hb6⟩; have hs6 : w5.heap.size ≤ w6.heap.size := hb6.size; have H46 := Lib.hid ((H45.out.below (Below.refl w5.heap.size w5).drew).below hb6); obtain ⟨⟨j0, j1⟩, ⟨j2, j3⟩, ⟨j4, j5⟩, j6, j7⟩ := H46.out.cells; have HO6 := Lib.hid (own_below (own_below HO5.out (Below.refl w5.heap.size w5).drew) hb6); have HB6 := Lib.hid (below_then HB5.out.drew hb6 hz5); clear hb6) | (refine step_append_lies _ rfl (.tmp 80) (.tmp 91) 111 rfl W1.heap.size 131 i1 (.agg #[.int .i64 0, .int .i64 0, .int .i64 0, .int .i64 0]) 4 32 Try.underlying111 RI.out RZ0.out RZ1.out RZ2.out rfl (by decide) (.slice E acc.length d) acc.length (ptsCells acc) (by simp [Act.eval]) HOW.out ⟨w7.heap.size, 0, none⟩ 4 4 (ptsCells [(a, Z), (a, a), (a, Y), (a, a)]) (by simp [Act.eval]) HLN.out HNEW.out (pts_one _) (by decide) HMX.out HBY.out HBS.out (w7.heap.size + 1) (by simp) ?_; intro g3 c3 w3 hown3 hg3 hat3 hlt3; have HBF := Lib.hid (HBB.out.grown hg3 HBS.out (fun kk e => (HOW.out.lt kk e).1)); have HG3 := Lib.hid hown3; have H48 := Lib.hid (four_grown (H47.out.below (below1 w7 _)) hg3 (fun kk e => HFAR.out kk e)); obtain ⟨⟨m0, m1⟩, ⟨m2, m3⟩, ⟨m4, m5⟩, m6, m7⟩ := H48.out.cells; clear hown3 hg3 hat3) | fail)
          have HLA : Hid ((acc ++ [(a, Z), (a, a), (a, Y), (a, a)]).length = acc.length + 4) := by show _ = _; simp
          go_wp2
          go_roundw
          case rel => exact ⟨y, acc ++ [(a, Z), (a, a), (a, Y), (a, a)], by omega, hyn, by go_num, ⟨some ⟨g3, 0, none⟩, c3, by rw [HLA.out], by rw [HLA.out, pts_app]; exact HG3.out, by rw [List.append_assoc]; exact HAC.out⟩, HBF.out⟩
          case measure => simp [intOf]; omega
end Go.Proofs.Ytcoagbcleccmmaa

namespace Go.Proofs.Ytcoagbcleccmmaa
open Go.RowKit

/-- What a call hands back that makes a list of lists and tells whether it did. -/
def BackPost (ls : List (List Int)) (ok : Bool) (w : World) (e : Ending) (w' : World) : Prop :=
  ∃ (A : Option Addr) (n c : Nat) (rs : List RowV), e = .returned (.tuple #[.slice A n c, .bool ok]) ∧ rowNums rs = ls ∧ rs.length = n ∧ FreeGrid w' w.heap.size w'.heap.size A rs ∧ Below w.heap.size w w'
theorem BackPost.no {w w' : World} (h : Below w.heap.size w w') : BackPost [] false w (.returned (.tuple #[.slice none 0 0, .bool false])) w' :=
  ⟨none, 0, 0, [], rfl, rfl, rfl, (Heads.nil w' w.heap.size).free, h⟩
theorem part_lens {w : World} {A : Option Addr} {rs : List RowV} (h : Grid w A rs) : part rs rs.length = ((rowNums rs).map List.length).sum := by
  rw [part_sum]
  have : ∀ ts : List RowV, (∀ r ∈ ts, r.xs.length = r.n) → ts.map RowV.n = (rowNums ts).map List.length := by
    intro ts ht
    simp only [rowNums, List.map_map]
    exact List.map_congr_left fun r hr => (ht r hr).symm
  rw [this rs fun r hr => (h.2 r hr).2.1]
theorem sum_lens {ls : List (List Int)} {k : Nat} (h : ∀ l ∈ ls, l.length ≤ k) : (ls.map List.length).sum ≤ k * ls.length := by
  induction ls with
  | nil => simp
  | cons l ls ih =>
    have h1 := h l (by simp)
    have h2 := ih fun x hx => h x (List.mem_cons_of_mem _ hx)
    rw [List.map_cons, List.sum_cons, List.length_cons, Nat.mul_succ]
    omega
end Go.Proofs.Ytcoagbcleccmmaa

namespace Go.Proofs.Ytcoagbcleccmmaa
open Go.RowKit

/-- The rising lists of at most m that begin with b and go on with some of the others, at least one of them; each ahead of those that it begins. -/
def subs (m : Nat) : List Int → List Int → List (List Int)
  | [], _ => []
  | k :: r, b => if m ≤ b.length then [] else ((b ++ [k]) :: subs m r (b ++ [k])) ++ subs m r b
theorem subs_full {m : Nat} {b : List Int} (h : m ≤ b.length) : ∀ o : List Int, subs m o b = []
  | [] => rfl
  | _ :: _ => if_pos h
theorem subs_next {m : Nat} {b o : List Int} {i : Nat} (hi : i < o.length) (h : b.length < m) : subs m (o.drop i) b = ((b ++ [o[i]]) :: subs m (o.drop (i + 1)) (b ++ [o[i]])) ++ subs m (o.drop (i + 1)) b := by
  rw [List.drop_eq_getElem_cons hi, subs, if_neg (by omega)]
theorem subs_len (m : Nat) : ∀ (o b : List Int), (subs m o b).length + 1 ≤ 2 ^ o.length
  | [], _ => by simp [subs]
  | k :: r, b => by
    have h1 := subs_len m r (b ++ [k])
    have h2 := subs_len m r b
    rw [subs, List.length_cons, Nat.pow_succ]
    split
    · have : 0 < 2 ^ r.length := Nat.pos_of_ne_zero (by simp)
      simp
      omega
    · simp only [List.length_append, List.length_cons]
      omega
theorem subs_small {m : Nat} {o b : List Int} (h : o.length ≤ 8) : (subs m o b).length ≤ 255 := by
  have h1 := subs_len m o b
  have h2 : 2 ^ o.length ≤ 2 ^ 8 := Nat.pow_le_pow_right (by omega) h
  omega

theorem subs_mem (m : Nat) : ∀ (o b l : List Int), l ∈ subs m o b ↔ ∃ c, l = b ++ c ∧ c ≠ [] ∧ c.Sublist o ∧ l.length ≤ m := by
  intro o
  induction o with
  | nil =>
    intro b l
    constructor
    · intro h
      simp [subs] at h
    · rintro ⟨c, -, hne, hs, -⟩
      exact absurd (List.sublist_nil.1 hs) hne
  | cons k r ih =>
    intro b l
    rw [subs]
    by_cases hm : m ≤ b.length
    · rw [if_pos hm]
      constructor
      · intro h
        simp at h
      · rintro ⟨c, rfl, hne, -, hl⟩
        have : 0 < c.length := List.length_pos_iff.2 hne
        rw [List.length_append] at hl
        omega
    · rw [if_neg hm, List.mem_append, List.mem_cons, ih, ih]
      constructor
      · rintro ((rfl | ⟨c, rfl, hne, hs, hl⟩) | ⟨c, rfl, hne, hs, hl⟩)
        · refine ⟨[k], rfl, by simp, ?_, by simp; omega⟩
          exact (List.nil_sublist r).cons_cons k
        · refine ⟨k :: c, by simp, by simp, hs.cons_cons k, hl⟩
        · exact ⟨c, rfl, hne, hs.cons k, hl⟩
      · rintro ⟨c, rfl, hne, hs, hl⟩
        cases hs with
        | cons _ h => exact .inr ⟨c, rfl, hne, h, hl⟩
        | cons_cons _ h =>
          rename_i c'
          by_cases hc : c' = []
          · subst hc
            exact .inl (.inl rfl)
          · exact .inl (.inr ⟨c', by simp, hc, h, hl⟩)

theorem FreeRows.grown {w w' : World} {ps : List (Nat × Nat)} {rs : List RowV} {row : Option Nat} (h : FreeRows w ps rs) (hg : w.grownBy w' row) (hd : ∀ g, row = some g → ∀ p ∈ ps, g < p.1 ∨ p.2 ≤ g) : FreeRows w' ps rs :=
  ⟨h.1, fun k r p hr hp => ⟨fresh_grown (h.2.1 k r p hr hp).1 hg (fun g e => hd g e p (List.mem_of_getElem? hp)), (h.2.1 k r p hr hp).2⟩, h.2.2⟩
theorem FreeRows.join {w : World} {ps qs : List (Nat × Nat)} {rs ss : List RowV} (h : FreeRows w ps rs) (h' : FreeRows w qs ss) (hd : ∀ p ∈ ps, ∀ q ∈ qs, p.2 ≤ q.1) : FreeRows w (ps ++ qs) (rs ++ ss) := by
  obtain ⟨a1, a2, a3⟩ := h
  obtain ⟨b1, b2, b3⟩ := h'
  refine ⟨by simp [a1, b1], fun k r p hr hp => ?_, fun i j p p' hij hp hp' => ?_⟩
  · rcases Nat.lt_or_ge k rs.length with hk | hk
    · rw [List.getElem?_append_left hk] at hr
      rw [List.getElem?_append_left (by omega)] at hp
      exact a2 k r p hr hp
    · rw [List.getElem?_append_right hk] at hr
      rw [List.getElem?_append_right (by omega), a1] at hp
      exact b2 _ r p hr hp
  · rcases Nat.lt_or_ge i ps.length with hi | hi <;> rcases Nat.lt_or_ge j ps.length with hj | hj
    · rw [List.getElem?_append_left hi] at hp
      rw [List.getElem?_append_left hj] at hp'
      exact a3 i j p p' hij hp hp'
    · rw [List.getElem?_append_left hi] at hp
      rw [List.getElem?_append_right hj] at hp'
      exact .inl (hd p (List.mem_of_getElem? hp) p' (List.mem_of_getElem? hp'))
    · rw [List.getElem?_append_right hi] at hp
      rw [List.getElem?_append_left hj] at hp'
      exact .inr (hd p' (List.mem_of_getElem? hp') p (List.mem_of_getElem? hp))
    · rw [List.getElem?_append_right hi] at hp
      rw [List.getElem?_append_right hj] at hp'
      exact b3 _ _ p p' (by omega) hp hp'
/-- Lists of lists put behind others, both made by the call. -/
theorem Heads.join {w w1 w2 : World} {lo c d cap g : Nat} {A B : Option Addr} {rs ss : List RowV} (h : Heads w lo A c rs) (hlo : lo ≤ w.heap.size) (hb : Below w.heap.size w w1) (h' : Heads w1 w.heap.size B d ss)
    (hown : w2.ownsRow lo 39 1 (.slice (some ⟨g, 0, none⟩) (rs.length + ss.length) cap) (rs.length + ss.length) (rowVals rs ++ rowVals ss)) (hg : w1.grownBy w2 (Value.slice A rs.length c).ownBlock)
    (hat : (Value.slice A rs.length c).ownBlock = some g ∨ g = w1.heap.size) : Heads w2 lo (some ⟨g, 0, none⟩) cap (rs ++ ss) := by
  obtain ⟨h1, ps, h2, h3, h4⟩ := h
  obtain ⟨-, qs, k2, k3, -⟩ := h'
  have hsz := hb.size
  have hsg := hg.size
  have hob : ∀ q, (Value.slice A rs.length c).ownBlock = some q → ∃ a : Addr, A = some a ∧ a.block = q ∧ q < w.heap.size := by
    intro q hq
    cases A with
    | none => simp [Value.ownBlock] at hq
    | some a => exact ⟨a, rfl, by simpa [Value.ownBlock] using hq, (h1.lt q hq).2⟩
  refine ⟨by rw [List.length_append]; show World.ownsRow _ _ _ _ _ _ _; simpa [rowVals] using hown, ps ++ qs, ?_, ?_, ?_⟩
  · refine (FreeRows.join (h2.below hb) k2 fun p hp q hq => ?_).grown hg ?_
    · have := (h3 p hp).2; have := (k3 q hq).1; omega
    · intro q hq p hp
      obtain ⟨a, hA, hq2, hl⟩ := hob q hq
      rcases List.mem_append.1 hp with hp | hp
      · have := h4 a hA p hp; omega
      · have := (k3 p hp).1; omega
  · intro p hp
    rcases List.mem_append.1 hp with hp | hp
    · exact ⟨(h3 p hp).1, by have := (h3 p hp).2; omega⟩
    · exact ⟨by have := (k3 p hp).1; omega, by have := (k3 p hp).2; omega⟩
  · intro a ha p hp
    obtain rfl : (⟨g, 0, none⟩ : Addr) = a := Option.some.inj ha
    show g < p.1 ∨ p.2 ≤ g
    rcases List.mem_append.1 hp with hp | hp
    · rcases hat with hat | hat
      · obtain ⟨a, hA, hq2, -⟩ := hob g hat
        have := h4 a hA p hp
        omega
      · have := (h3 p hp).2
        omega
    · rcases hat with hat | hat
      · obtain ⟨a, hA, hq2, hl⟩ := hob g hat
        have := (k3 p hp).1
        omega
      · have := (k3 p hp).2
        omega
theorem Heads.raise {w : World} {lo lo' c : Nat} {A : Option Addr} {rs : List RowV} (h : Heads w lo A c rs) (hl : lo' ≤ lo) : Heads w lo' A c rs := by
  obtain ⟨h1, ps, h2, h3, h4⟩ := h
  refine ⟨?_, ps, h2, fun p hp => ⟨Nat.le_trans hl (h3 p hp).1, (h3 p hp).2⟩, h4⟩
  obtain ⟨hn, h | ⟨g, cap, cur, hv, hg, r⟩⟩ := h1
  · exact ⟨hn, .inl h⟩
  · exact ⟨hn, .inr ⟨g, cap, cur, hv, Nat.le_trans hl hg, r⟩⟩
/-- What a call hands back that makes a list of lists to which more can be appended. -/
def SubsPost (ls : List (List Int)) (w : World) (e : Ending) (w' : World) : Prop :=
  ∃ (A : Option Addr) (c : Nat) (rs : List RowV), e = .returned (.slice A rs.length c) ∧ rowNums rs = ls ∧ (A = none → rs = [] ∧ c = 0) ∧ (∀ a, A = some a → a = ⟨a.block, 0, none⟩ ∧ 0 < rs.length) ∧ Heads w' w.heap.size A c rs ∧ Below w.heap.size w w'
end Go.Proofs.Ytcoagbcleccmmaa

namespace Go.Proofs.Ytcoagbcleccmmaa
open Go.RowKit

/-- slices.Clone of a list, to which more can be appended. -/
def OwnOr (xs : List Int) (w : World) (e : Ending) (w' : World) : Prop :=
  ∃ (A : Option Addr) (c : Nat), e = .returned (.slice A xs.length c) ∧ w'.ownsRow w.heap.size 3 1 (.slice A xs.length c) xs.length (nums xs) ∧ Below w.heap.size w w'

set_option maxHeartbeats 800000 in
set_option maxRecDepth 100000 in
theorem cloneO_any (A : Option Addr) (n d : Nat) (bs : List Int) (w : World) (hB : Holds w A (nums bs)) (hy : bs.length = n) (hn : n ≤ 1048576) (hnil : A = none → n = 0 ∧ d = 0) :
    Calls Try.prog 85 #[.slice A n d] w (OwnOr bs w) := by
  subst hy
  cases A with
  | none =>
    obtain ⟨h0, rfl⟩ := hnil rfl
    obtain rfl := List.length_eq_zero_iff.1 h0
    clear h0
    go_enter Try.func85, Try.ntmps85
    have hnl := fun (W : World) => Lib.run_eql_slice_nil (P := Try.prog) W 39 3 none 0 0 0 0 Try.underlying39
    go_wp2
    go_ret
    exact ⟨none, 0, rfl, World.ownsRow_nil _ _ _ _, Below.refl _ _⟩
  | some ad =>
    obtain ⟨b, o, had⟩ : ∃ b o, (nums bs = [] ∨ ad = ⟨b, o, none⟩) := by
      rcases hB with h | ⟨b, o, h, -, -⟩
      · exact ⟨0, 0, .inl h⟩
      · exact ⟨b, o, .inr (Option.some.inj h)⟩
    obtain ⟨i0, hi, hz0, hz1, hz2⟩ := info_parts info_int
    have HI := Lib.hid hi
    have HZ0 := Lib.hid hz0
    have HZ1 := Lib.hid hz1
    have HZ2 := Lib.hid hz2
    have hnews : ∀ j u, (nums bs)[j]? = some u → (w.alloc (.cells #[] 3)).cell? (ad.add j) = some u := fun j u hu => by
      rcases hB with h | ⟨b, o, h, hb, hcell⟩
      · rw [h] at hu; simp at hu
      · obtain rfl : ad = ⟨b, o, none⟩ := by simpa using h
        rw [show (⟨b, o, none⟩ : Addr).add j = ⟨b, o + j, none⟩ from by unfold Addr.add; split <;> simp_all, World.cell?_alloc_lt _ _ _ hb]
        exact hcell j u hu
    clear hi hz0 hz1 hz2 had hnil
    go_enter Try.func85, Try.ntmps85
    have hnl := fun (W : World) => Lib.run_eql_slice_nil (P := Try.prog) W 39 3 (some ad) bs.length d 0 0 Try.underlying39
    have HOWN := Lib.hid (World.ownsRow_made (base := w.heap.size) (e := 3) (size := 1) w #[] 0 (Nat.le_refl _) (by unfold maxLen; omega) rfl)
    have HNEWS := Lib.hid hnews
    have HLEN := Lib.hid (show (nums bs).length = bs.length * 1 by rw [nums_len, Nat.mul_one])
    have HONE := Lib.hid (ints_one bs)
    have HMAX := Lib.hid (show 0 + bs.length ≤ maxLen by unfold maxLen; omega)
    have HBYT := Lib.hid (show (0 + bs.length) * 8 ≤ 140737488355328 by omega)
    clear hnews
    go_wp2_with (at_builtin; refine wpList_append_own _ rfl (.tmp 5) (.tmp 6) 39 rfl w.heap.size 3 i0 (.int .i64 0) 1 8 Try.underlying39 HI.out HZ0.out HZ1.out HZ2.out rfl (by decide) _ 0 [] rfl HOWN.out ad bs.length d (nums bs) rfl HLEN.out HNEWS.out HONE.out HMAX.out HBYT.out (by simp) ?_; intro v' w1 hown1 hg1 _)
    go_ret
    simp only [Nat.zero_add, List.nil_append] at hown1
    have hbe := (below1 w (.cells #[] 3)).grown hg1 (by simp) (fun k hk => Nat.le_of_eq (Option.some.inj (show some w.heap.size = some k from hk)))
    obtain ⟨A1, c1, rfl⟩ := own_shape hown1
    exact ⟨A1, c1, rfl, hown1, hbe⟩

/-- Where the list behind a place lies, nil or not: at the list's own address where no room is left behind that place. -/
theorem behind_at {w : World} {A : Option Addr} {n c k : Nat} {xs : List Int} (h : Holds w A (nums xs)) (hx : xs.length = n) (hn : n ≤ c) (hk : k < n) :
    ∃ b o d, A = some ⟨b, o, none⟩ ∧ b < w.heap.size ∧ (if c = k + 1 then some (⟨b, o, none⟩ : Addr) else some ⟨b, o + (k + 1), none⟩) = some ⟨b, d, none⟩ ∧ Holds w (some ⟨b, d, none⟩) (nums (xs.drop (k + 1))) := by
  rcases h with h | ⟨b, o, rfl, hb, hc⟩
  · have := congrArg List.length h
    rw [nums_len, List.length_nil] at this
    omega
  · obtain ⟨d, hd, hh⟩ := tail_at (w := w) (b := b) (o := o) (n := n) (c := c) (k := k) (xs := xs) hc hx hn
    exact ⟨b, o, d, rfl, hb, hd, .inr ⟨b, d, rfl, hb, hh.out⟩⟩

theorem holds_of_own {w : World} {base : Nat} {e : TypeId} {A : Option Addr} {n c : Nat} {xs : List Value} (h : w.ownsRow base e 1 (.slice A n c) n xs) : Holds w A xs := by
  obtain ⟨A', c', hv, hf⟩ := Fresh.of_own h (Nat.le_refl _)
  obtain ⟨rfl, -⟩ : A = A' ∧ c = c' := by simpa using hv
  exact hf.holds

theorem rowVals_one (rs : List RowV) : ∀ u ∈ rowVals rs, u.oneCell' = true := by
  intro v hv
  simp only [rowVals, List.mem_map] at hv
  obtain ⟨x, -, rfl⟩ := hv
  rfl
theorem own_fresh0' {w : World} {lo n c : Nat} {ty : TypeId} {A : Option Addr} {xs : List Value} (h : w.ownsRow lo ty 1 (.slice A n c) n xs) : Fresh w lo w.heap.size ty A xs := by
  obtain ⟨A', c', hv, hf⟩ := Fresh.of_own h (Nat.le_refl _)
  obtain ⟨rfl, -⟩ : A = A' ∧ c = c' := by simpa using hv
  exact hf

end Go.Proofs.Ytcoagbcleccmmaa

namespace Go.Proofs.Ytcoagbcleccmmaa
open Go.RowKit

theorem mild_ord {xs : List Int} (h : ∀ y ∈ xs, 1 ≤ y ∧ y ≤ 1000) : Mild (mk xs (ord xs)) := by
  intro k
  by_cases hk : k < (ord xs).length
  · rw [wk_mk hk]
    have hm := ord_mem (List.getElem_mem hk)
    have hx : ((ord xs)[k]).toNat < xs.length := by omega
    have := h _ (List.getElem_mem hx)
    show 0 ≤ tm xs (ord xs)[k] ∧ tm xs (ord xs)[k] ≤ 1000
    simp only [tm, List.getD_eq_getElem?_getD, List.getElem?_eq_getElem hx, Option.getD_some]
    omega
  · have : wk (mk xs (ord xs)) k = (0, 0) := by
      simp [wk, List.getD_eq_getElem?_getD, List.getElem?_eq_none (show (mk xs (ord xs)).length ≤ k by rw [mk_len]; omega)]
    rw [this]
    simp
/-- All trips for some times, if they are times; else none. -/
def prTs (f : Bool) (xs : List Int) : List Pt := if prOk xs then tripsT f (mk xs (ord xs)) xs.length else []
theorem prTs_yes {f : Bool} {xs : List Int} (h : prOk xs = true) : prTs f xs = tripsT f (mk xs (ord xs)) xs.length := if_pos h
theorem prTs_no {f : Bool} {xs : List Int} (h : prOk xs = false) : prTs f xs = [] := if_neg (by simp [h])
theorem prTs_len (f : Bool) (xs : List Int) : (prTs f xs).length ≤ 24 := by
  cases h : prOk xs
  · rw [prTs_no h]; simp
  · rw [prTs_yes h]
    have := trips_len f (mk xs (ord xs)) xs.length
    have := (prOk_parts h).2.1
    omega
theorem prTs_ok {f : Bool} {xs : List Int} : ∀ t ∈ prTs f xs, OkT xs t := by
  cases h : prOk xs
  · rw [prTs_no h]; simp
  · rw [prTs_yes h]
    exact trips_ok (good_ord xs) f _ (by rw [mk_len, ord_len]; exact Nat.le_refl _)
theorem prTs_mild {f : Bool} {xs : List Int} : ∀ t ∈ prTs f xs, 0 ≤ t.2.2 ∧ t.2.2 ≤ 1000 := by
  intro t ht
  cases h : prOk xs
  · rw [prTs_no h] at ht; simp at ht
  · have ho := prTs_ok t ht
    have hm := (prOk_parts h).2.2
    obtain ⟨-, ⟨h1, h2, h3⟩, -⟩ := ho
    rw [h1]
    have hx : (t.2.1).toNat < xs.length := by omega
    have := hm _ (List.getElem_mem hx)
    simp only [tm, List.getD_eq_getElem?_getD, List.getElem?_eq_getElem hx, Option.getD_some]
    omega
/-- What pairTrips hands back. -/
def PairsPost (ts : List Pt) (ok : Bool) (w : World) (e : Ending) (w' : World) : Prop :=
  ∃ (E : Option Addr) (d : Nat), e = .returned (.tuple #[.slice E ts.length d, .bool ok]) ∧ w'.ownsRow w.heap.size 131 4 (.slice E ts.length d) ts.length (ptsCells ts) ∧ Below w.heap.size w w'

set_option maxHeartbeats 3200000 in
set_option maxRecDepth 100000 in
theorem pairTrips_any (A : Option Addr) (n c : Nat) (xs : List Int) (f : Bool) (w : World) (hA : Holds w A (nums xs)) (hx : xs.length = n) (hn : n ≤ 9223372036854775807) :
    Calls Try.prog 102 #[.slice A n c, .bool f] w (PairsPost (prTs f xs) (prOk xs) w) := by
  have HX := Lib.hid hx
  clear hx
  go_enter Try.func102, Try.ntmps102
  go_wp2_with fail
  refine (squadOf_any A n c xs _ hA HX.out hn).mono ?_
  rintro e w1 hpost
  rcases hpost with ⟨⟨hp, rfl⟩ | ⟨hp, rfl⟩, hb⟩
  · have HP := Lib.hid hp
    have hmp := prOk_parts hp
    have HM := Lib.hid (mild_ord hmp.2.2)
    have h12 := hmp.2.1
    have h1 := hmp.1
    have HB := Lib.hid hb
    have HWL : Hid ((mk xs (ord xs)).length = xs.length) := by show _ = _; rw [mk_len, ord_len]
    clear hp hmp hb
    generalize hW : mk xs (ord xs) = W at HM HWL ⊢
    have HW := Lib.hid hW
    clear hW
    go_upto_region 2 with (refine wpList_store_whole rfl 126 (.tmp 6) (.tmp 11) rfl w1.heap.size (squadCells W xs.length) rfl rfl 126 _ (Whole.fresh _ _ _) size_squad rfl (squad_one _ _) ?_; intro W2 hw2 ho2)
    have hb2 := ho2.below (HB.out.alloc HB.out.size (.cells (squadCells [] 0) 126)) HB.out.size
    have HW2 := Lib.hid hw2
    have HB2 := Lib.hid hb2
    clear hw2 ho2 hb2
    go_wp2_with (refine wpList_load_row rfl 126 (.tmp 6) rfl w1.heap.size rfl 126 (squadCells W xs.length) (0, 0) _ HW2.out Try.underlying126 rfl size_squad ?_)
    have htr := trips_any W f W2 (by rw [HWL.out]; exact h1) (by rw [HWL.out]; exact h12) HM.out
    rw [HWL.out] at htr
    refine htr.mono ?_
    clear htr
    rintro e w3 ⟨E, d, rfl, hown, hb3⟩
    have HO := Lib.hid (own_lower hown HB2.out.size)
    have HB3 := Lib.hid (below_then HB2.out hb3 HB2.out.size)
    clear hown hb3
    go_wp2
    go_ret2
    rw [prTs_yes HP.out, HP.out, HW.out]
    exact ⟨E, d, rfl, HO.out, HB3.out⟩
  · have HP := Lib.hid hp
    have HB := Lib.hid hb
    clear hp hb
    go_upto_region 2 with (refine wpList_store_whole rfl 126 (.tmp 6) (.tmp 11) rfl w1.heap.size (squadCells [] 0) rfl rfl 126 _ (Whole.fresh _ _ _) size_squad rfl (squad_one _ _) ?_; intro W2 hw2 ho2)
    have hb2 := ho2.below (HB.out.alloc HB.out.size (.cells (squadCells [] 0) 126)) HB.out.size
    have HB2 := Lib.hid hb2
    clear hw2 ho2 hb2
    go_wp2
    go_ret2
    rw [prTs_no HP.out, HP.out]
    exact ⟨none, 0, rfl, World.ownsRow_nil _ _ _ _, HB2.out⟩

theorem pts_at {ts : List Pt} {k j : Nat} (hk : k < ts.length) (hj : j < 4) : (ptsCells ts)[k * 4 + j]? = (ptCells ts[k])[j]? := by
  induction ts generalizing k with
  | nil => simp at hk
  | cons t ts ih =>
    have h4 : (ptCells t).toList.length = 4 := rfl
    have hc : ptsCells (t :: ts) = (ptCells t).toList ++ ptsCells ts := rfl
    rw [hc]
    cases k with
    | zero =>
      rw [List.getElem?_append_left (by rw [h4]; omega)]
      simp
    | succ k =>
      rw [List.getElem?_append_right (by rw [h4]; omega), h4]
      have := ih (k := k) (by simpa using hk)
      simp only [List.getElem_cons_succ]
      rw [← this]
      congr 1
      omega
theorem pt_row {w : World} {b o : Nat} {ts : List Pt} {k : Nat} (h : ∀ j u, (ptsCells ts)[j]? = some u → w.cell? ⟨b, o + j, none⟩ = some u) (hk : k < ts.length) :
    w.cell? ⟨b, o + k * 4, none⟩ = some (.int .i64 ts[k].1.1) ∧ w.cell? ⟨b, o + k * 4 + 1, none⟩ = some (.int .i64 ts[k].1.2) ∧ w.cell? ⟨b, o + k * 4 + 2, none⟩ = some (.int .i64 ts[k].2.1) ∧ w.cell? ⟨b, o + k * 4 + 3, none⟩ = some (.int .i64 ts[k].2.2) :=
  ⟨h _ _ (pts_at hk (j := 0) (by omega)), by rw [Nat.add_assoc]; exact h _ _ (pts_at hk (j := 1) (by omega)), by rw [Nat.add_assoc]; exact h _ _ (pts_at hk (j := 2) (by omega)), by rw [Nat.add_assoc]; exact h _ _ (pts_at hk (j := 3) (by omega))⟩
theorem holds_at {w : World} {A : Option Addr} {xs : List Value} (h : Holds w A xs) (h0 : 0 < xs.length) : ∃ b o, A = some ⟨b, o, none⟩ ∧ b < w.heap.size ∧ ∀ j u, xs[j]? = some u → w.cell? ⟨b, o + j, none⟩ = some u := by
  rcases h with rfl | h
  · simp at h0
  · exact h
theorem timeT_next {ts : List Pt} {k : Nat} (h : k < ts.length) : timeT (ts.take (k + 1)) = timeT (ts.take k) + ts[k].2.2 := by
  rw [timeT, timeT, List.take_succ_eq_append_getElem h, List.map_append, List.sum_append]
  simp
theorem timeT_bd {ts : List Pt} (h : ∀ t ∈ ts, 0 ≤ t.2.2 ∧ t.2.2 ≤ 1000) : 0 ≤ timeT ts ∧ timeT ts ≤ 1000 * ts.length := by
  induction ts with
  | nil => simp [timeT]
  | cons t ts ih =>
    have h1 := h t (by simp)
    have h2 := ih fun x hx => h x (List.mem_cons_of_mem _ hx)
    simp only [timeT, List.map_cons, List.sum_cons, List.length_cons] at h2 ⊢
    omega

set_option maxHeartbeats 3200000 in
set_option maxRecDepth 100000 in
theorem timeOfTrips_any (E : Option Addr) (n d : Nat) (ts : List Pt) (w : World) (hE : Holds w E (ptsCells ts)) (hn : ts.length = n) (h24 : n ≤ 24) (hm : ∀ t ∈ ts, 0 ≤ t.2.2 ∧ t.2.2 ≤ 1000) :
    Calls Try.prog 103 #[.slice E n d] w fun e w' => e = .returned (.int .i64 (timeT ts)) ∧ Below w.heap.size w w' := by
  have HN := Lib.hid hn
  have HM := Lib.hid hm
  clear hn hm
  go_enter Try.func103, Try.ntmps103
  go_wp2
  go_loopw [3, 8] (fun v i wr => ∃ k : Nat, k ≤ n ∧ i = .int .i64 k ∧ v = .int .i64 (timeT (ts.take k)) ∧ Below w.heap.size w wr) (fun _ i _ => n - (intOf i).toNat)
  case atStart => exact ⟨0, Nat.zero_le _, rfl, rfl, Below.refl _ _⟩
  case round =>
    obtain ⟨k, hk, rfl, rfl, hb⟩ := hrel
    by_cases hlt : k < n
    · have hkt : k < ts.length := by have := HN.out; omega
      obtain ⟨b1, o1, rfl, -, hcell⟩ := holds_at (hE.below hb) (by rw [pts_len]; omega)
      obtain ⟨c0, c1, c2, c3⟩ := pt_row hcell hkt
      have hbd := timeT_bd (ts := ts.take k) fun t ht => HM.out t (List.mem_of_mem_take ht)
      have hlen : (ts.take k).length ≤ 24 := by simp; omega
      have hs0 := hbd.1
      have hs1 : timeT (ts.take k) ≤ 24000 := by omega
      have ht := HM.out _ (List.getElem_mem hkt)
      have HNX := Lib.hid (timeT_next hkt)
      generalize ts[k] = t at c0 c1 c2 c3 ht HNX
      obtain ⟨⟨t1, t2⟩, t3, t4⟩ := t
      dsimp only at c0 c1 c2 c3 ht
      have ht1 := ht.1
      have ht2 := ht.2
      have HB := Lib.hid (hb.alloc hb.size (.cells #[.int .i64 t1, .int .i64 t2, .int .i64 t3, .int .i64 t4] 131))
      clear hcell hbd hlen ht hb
      go_wp2
      go_roundw
      case rel => exact ⟨k + 1, by omega, by go_num, by rw [HNX.out], HB.out⟩
      case measure => simp [intOf]; omega
    · obtain rfl : k = n := by omega
      have HT : Hid (ts.take k = ts) := List.take_of_length_le (by have := HN.out; omega)
      go_wp2
      go_ret
      exact ⟨ret_of (by rw [HT.out]; rfl), hb⟩
end Go.Proofs.Ytcoagbcleccmmaa

namespace Go.Proofs.Ytcoagbcleccmmaa
open Go.RowKit

/-- The world with these lists laid, each in a block of its own. -/
def lay (w : World) : List (List Int) → World
  | [] => w
  | l :: ls => lay (w.alloc (.cells (nums l).toArray 3)) ls
def rowsAt (b : Nat) : List (List Int) → List RowV
  | [] => []
  | l :: ls => ⟨some ⟨b, 0, none⟩, l.length, l.length, l⟩ :: rowsAt (b + 1) ls
theorem rowsAt_len : ∀ (ls : List (List Int)) (b : Nat), (rowsAt b ls).length = ls.length
  | [], _ => rfl
  | _ :: ls, b => by rw [rowsAt, List.length_cons, List.length_cons, rowsAt_len ls (b + 1)]
theorem rowsAt_nums : ∀ (ls : List (List Int)) (b : Nat), rowNums (rowsAt b ls) = ls
  | [], _ => rfl
  | l :: ls, b => by
    have := rowsAt_nums ls (b + 1)
    simp only [rowsAt, rowNums, List.map_cons] at this ⊢
    rw [this]
theorem lay_below : ∀ (ls : List (List Int)) (w : World), Below w.heap.size w (lay w ls)
  | [], w => Below.refl _ _
  | l :: ls, w => (below1 w _).trans ((lay_below ls _).mono (by simp))
theorem lay_size : ∀ (ls : List (List Int)) (w : World), (lay w ls).heap.size = w.heap.size + ls.length
  | [], w => rfl
  | l :: ls, w => by rw [lay, lay_size ls, World.size_alloc, List.length_cons]; omega
theorem lay_own : ∀ (ls : List (List Int)) (w : World), (∀ l ∈ ls, l.length ≤ 1048576) → OwnRows (lay w ls) w.heap.size (lay w ls).heap.size (rowsAt w.heap.size ls)
  | [], w, _ => Nat.le_refl _
  | l :: ls, w, h => by
    have ih := lay_own ls (w.alloc (.cells (nums l).toArray 3)) fun x hx => h x (List.mem_cons_of_mem _ hx)
    rw [World.size_alloc] at ih
    have hw : Whole (w.alloc (.cells (nums l).toArray 3)) w.heap.size 3 (nums l).toArray := Whole.fresh w _ _
    have hw2 : Whole (lay w (l :: ls)) w.heap.size 3 (nums l).toArray := hw.below (lay_below ls _)
    refine ⟨w.heap.size + 1, Nat.le_succ _, ?_, rfl, h l (by simp), ih⟩
    have := Fresh.of_whole (lo := w.heap.size) (hi := w.heap.size + 1) hw2 (Nat.le_refl _) (Nat.lt_succ_self _)
    exact this
/-- The list of the lists laid, as one that more can be put behind. -/
theorem lay_heads (ls : List (List Int)) (w : World) (h : ∀ l ∈ ls, l.length ≤ 1048576) (hn : ls.length ≤ maxLen) :
    Heads ((lay w ls).alloc (.cells (rowVals (rowsAt w.heap.size ls)).toArray 39)) w.heap.size (some ⟨(lay w ls).heap.size, 0, none⟩) ls.length (rowsAt w.heap.size ls) := by
  obtain ⟨ps, h1, h2⟩ := (lay_own ls w h).free
  refine ⟨?_, ps, h1.below (below1 _ _), fun p hp => ⟨(h2 p hp).1, by have := (h2 p hp).2; simp; omega⟩, fun a ha p hp => ?_⟩
  · refine ⟨by rw [rowVals_len, Nat.mul_one], .inr ⟨(lay w ls).heap.size, ls.length, (rowVals (rowsAt w.heap.size ls)).toArray, by rw [rowsAt_len], by rw [lay_size]; omega, Whole.fresh _ _ _, by rw [rowsAt_len]; exact Nat.le_refl _, hn, by rw [List.size_toArray, rowVals_len, rowsAt_len, Nat.mul_one], ?_⟩⟩
    rw [Nat.mul_one, List.take_of_length_le (by simp [rowVals_len])]
  · obtain rfl := Option.some.inj ha
    exact .inr (h2 p hp).2
theorem lay_all (ls : List (List Int)) (w : World) (o : Obj) : Below w.heap.size w ((lay w ls).alloc o) := (lay_below ls w).alloc (by rw [lay_size]; omega) o
theorem lay_news (ls : List (List Int)) (w : World) : ∀ j u, (rowVals (rowsAt w.heap.size ls))[j]? = some u → ((lay w ls).alloc (.cells (rowVals (rowsAt w.heap.size ls)).toArray 39)).cell? ((⟨(lay w ls).heap.size, 0, none⟩ : Addr).add j) = some u := by
  have h := cells_fresh (lay w ls) 39 (rowVals (rowsAt w.heap.size ls)).toArray
  simpa using h
end Go.Proofs.Ytcoagbcleccmmaa

namespace Go.Proofs.Ytcoagbcleccmmaa
open Go.RowKit

/-- The sign of a round: f for a fetch, e for an escort. -/
def signR (f : Bool) (W : List Wk) (k : Nat) : UInt8 := if f && decide (0 < gainOf W k) then 102 else 101
def signsT (f : Bool) (W : List Wk) : Nat → List UInt8
  | 0 => []
  | 1 => []
  | 2 => []
  | 3 => []
  | k + 4 => signR f W (k + 2) :: signsT f W (k + 2)
def evenT (W : List Wk) : Nat → Bool
  | 0 => false
  | 1 => false
  | 2 => false
  | 3 => false
  | k + 4 => decide (gainOf W (k + 2) = 0) || evenT W (k + 2)
theorem signsT_step (f : Bool) (W : List Wk) {k y : Nat} (h4 : 4 ≤ k) (hy : y + 2 = k) : signsT f W k = signR f W y :: signsT f W y := by
  obtain ⟨m, rfl⟩ : ∃ m, k = m + 4 := ⟨k - 4, by omega⟩
  obtain rfl : y = m + 2 := by omega
  rw [signsT]
theorem evenT_step (W : List Wk) {k y : Nat} (h4 : 4 ≤ k) (hy : y + 2 = k) : evenT W k = (decide (gainOf W y = 0) || evenT W y) := by
  obtain ⟨m, rfl⟩ : ∃ m, k = m + 4 := ⟨k - 4, by omega⟩
  obtain rfl : y = m + 2 := by omega
  rw [evenT]
theorem tripsM_step (f : Bool) (W : List Wk) {k y : Nat} (h4 : 4 ≤ k) (hy : y + 2 = k) : (tripsT f W k).map listT = (round f W y).map listT ++ (tripsT f W y).map listT := by
  obtain ⟨m, rfl⟩ : ∃ m, k = m + 4 := ⟨k - 4, by omega⟩
  obtain rfl : y = m + 2 := by omega
  rw [tripsT, List.map_append]
theorem signsT_len (f : Bool) (W : List Wk) : ∀ k, (signsT f W k).length ≤ k
  | 0 => Nat.le_refl _
  | 1 => by simp [signsT]
  | 2 => by simp [signsT]
  | 3 => by simp [signsT]
  | k + 4 => by
    have := signsT_len f W (k + 2)
    rw [signsT, List.length_cons]
    omega
theorem list_alone (x : Wk) : listT (x, x) = [x.1] := by simp [listT, isAlone]
theorem list_pair {x y : Wk} (h : x.1 ≠ y.1) : listT (x, y) = [min x.1 y.1, max x.1 y.1] := by
  have hne : ¬ x = y := fun e => h (by rw [e])
  simp [listT, isAlone, hne]
theorem fetch_lists {xs : List Int} {W : List Wk} (h : GoodW xs W) {y : Nat} (h2 : 2 ≤ y) (hy : y + 1 < W.length) (hg : 0 < gainOf W y) :
    (round true W y).map listT = [[min (wk W 0).1 (wk W 1).1, max (wk W 0).1 (wk W 1).1], [(wk W 0).1], [min (wk W y).1 (wk W (y + 1)).1, max (wk W y).1 (wk W (y + 1)).1], [(wk W 1).1]] := by
  rw [round, if_pos (by simp [hg])]
  simp only [List.map_cons, List.map_nil, list_alone, list_pair (h.two 0 1 (by omega) (by omega)).2, list_pair (h.two y (y + 1) (by omega) hy).2]
theorem escort_lists {xs : List Int} {W : List Wk} (h : GoodW xs W) {f : Bool} {y : Nat} (h2 : 2 ≤ y) (hy : y + 1 < W.length) (hg : (f && decide (0 < gainOf W y)) = false) :
    (round f W y).map listT = [[min (wk W 0).1 (wk W (y + 1)).1, max (wk W 0).1 (wk W (y + 1)).1], [(wk W 0).1], [min (wk W 0).1 (wk W y).1, max (wk W 0).1 (wk W y).1], [(wk W 0).1]] := by
  rw [round, if_neg (by simp [hg])]
  simp only [List.map_cons, List.map_nil, list_alone, list_pair (h.two 0 (y + 1) (by omega) hy).2, list_pair (h.two 0 y (by omega) (by omega)).2]

set_option maxHeartbeats 800000 in
theorem prPair_any (x y : Int) (w : World) : Calls Try.prog 100 #[.int .i64 x, .int .i64 y] w fun e w' => e = .returned (.slice (some ⟨w.heap.size, 0, none⟩) 2 2) ∧ w' = w.alloc (.cells #[.int .i64 (min x y), .int .i64 (max x y)] 3) := by
  by_cases h : y < x
  · have HM : Hid (min x y = y ∧ max x y = x) := by show _ ∧ _; omega
    go_enter Try.func100, Try.ntmps100
    go_wp2
    go_ret
    exact ⟨rfl, by rw [HM.out.1, HM.out.2]⟩
  · have HM : Hid (min x y = x ∧ max x y = y) := by show _ ∧ _; omega
    go_enter Try.func100, Try.ntmps100
    go_wp2
    go_ret
    exact ⟨rfl, by rw [HM.out.1, HM.out.2]⟩

theorem cat_sign (l : List UInt8) (c : UInt8) (h : l.length ≤ 1048576) (W : World) : (Op.stringOp .add ⟨l.toArray⟩ ⟨#[c]⟩).run Try.prog W = .ok (.string ⟨(l ++ [c]).toArray⟩) W :=
  run_string_add_lists W l [c] (by omega) (by simp)
theorem lay_heads' (ls : List (List Int)) (w : World) (h : ∀ l ∈ ls, l.length ≤ 1048576) (hn : ls.length ≤ maxLen) :
    Heads ((lay w ls).alloc (.cells (rowVals (rowsAt w.heap.size ls)).toArray 39)) w.heap.size (some ⟨w.heap.size + ls.length, 0, none⟩) ls.length (rowsAt w.heap.size ls) := by
  have := lay_heads ls w h hn
  rwa [lay_size] at this
theorem lay_news' (ls : List (List Int)) (w : World) : ∀ j u, (rowVals (rowsAt w.heap.size ls))[j]? = some u → ((lay w ls).alloc (.cells (rowVals (rowsAt w.heap.size ls)).toArray 39)).cell? ((⟨w.heap.size + ls.length, 0, none⟩ : Addr).add j) = some u := by
  have := lay_news ls w
  rwa [lay_size] at this
theorem rowsAt_vals (b : Nat) (ls : List (List Int)) : (rowVals (rowsAt b ls)).length = ls.length * 1 := by rw [rowVals_len, rowsAt_len, Nat.mul_one]
theorem rowVals_one' (rs : List RowV) : ∀ u ∈ rowVals rs, u.oneCell' = true := by
  intro v hv
  simp only [rowVals, List.mem_map] at hv
  obtain ⟨x, -, rfl⟩ := hv
  rfl
theorem laid_size (ls : List (List Int)) (w : World) (o : Obj) : ((lay w ls).alloc o).heap.size = w.heap.size + ls.length + 1 := by rw [World.size_alloc, lay_size]
end Go.Proofs.Ytcoagbcleccmmaa

namespace Go.Proofs.Ytcoagbcleccmmaa
open Go.RowKit

/-- What prTrips hands back. -/
def PrPost (ls : List (List Int)) (sg : List UInt8) (ev : Bool) (w : World) (e : Ending) (w' : World) : Prop :=
  ∃ (E : Option Addr) (d : Nat) (rs : List RowV), e = .returned (.tuple #[.slice E rs.length d, .string ⟨sg.toArray⟩, .bool ev]) ∧ rowNums rs = ls ∧ Heads w' w.heap.size E d rs ∧ Below w.heap.size w w'
/-- The list of trips, under way. -/
def PrTo (T : List (List Int)) (SG : List UInt8) (EV : Bool) (f : Bool) (W : List Wk) (k lo : Nat) (w1 wr : World) (v12 v13 : Value) (E : Option Addr) (d : Nat) (acc : List RowV) : Prop :=
  rowNums acc ++ (tripsT f W k).map listT = T ∧ Heads wr lo E d acc ∧ (∃ l : List UInt8, v12 = .string ⟨l.toArray⟩ ∧ l ++ signsT f W k = SG) ∧ (∃ ev : Bool, v13 = .bool ev ∧ (ev || evenT W k) = EV) ∧ Below lo w1 wr

set_option maxHeartbeats 12800000 in
set_option maxRecDepth 100000 in
theorem prTrips_any (A : Option Addr) (n c : Nat) (xs : List Int) (e : Bool) (w : World) (hA : Holds w A (nums xs)) (hx : xs.length = n) (hp : prOk xs = true) :
    Calls Try.prog 93 #[.slice A n c, .bool e] w (PrPost ((tripsT (!e) (mk xs (ord xs)) n).map listT) (signsT (!e) (mk xs (ord xs)) n) (evenT (mk xs (ord xs)) n) w) := by
  obtain ⟨i1, ri, rz0, rz1, rz2⟩ := info_parts info_row
  have RI := Lib.hid ri
  have RZ0 := Lib.hid rz0
  have RZ1 := Lib.hid rz1
  have RZ2 := Lib.hid rz2
  have HX := Lib.hid hx
  obtain ⟨h1, h12, hmild⟩ := prOk_parts hp
  rw [hx] at h1 h12
  have HGW := Lib.hid (good_ord xs)
  have HWL : Hid ((mk xs (ord xs)).length = n) := by show _ = _; rw [mk_len, ord_len, hx]
  have HM := Lib.hid hmild
  have HORD : Hid (ordTo xs n = ord xs) := by show _ = _; rw [ord, hx]
  have HWI := Lib.hid (fun (k : Nat) (hk : k < (ord xs).length) => wk_mk (xs := xs) hk)
  have HOL : Hid ((ord xs).length = n) := by show _ = _; rw [ord_len, hx]
  generalize hW : mk xs (ord xs) = W at HGW HWL HWI ⊢
  generalize hT : (tripsT (!e) W n).map listT = T
  generalize hSG : signsT (!e) W n = SG
  generalize hEV : evenT W n = EV
  have HT := Lib.hid hT
  have HSG := Lib.hid hSG
  have HEV := Lib.hid hEV
  have htl : T.length ≤ 24 := by
    have := trips_len (!e) W n
    rw [← hT, List.length_map]
    omega
  have hsl : SG.length ≤ 12 := by
    have := signsT_len (!e) W n
    rw [← hSG]
    omega
  clear hx hp hmild hW hT hSG hEV ri rz0 rz1 rz2
  go_enter Try.func93, Try.ntmps93
  go_wp2_with fail
  refine (prOrder_any A n c xs _ hA HX.out (by omega)).mono ?_
  rintro e' w1 ⟨A1, c1, rfl, hown, hb⟩
  rw [ordTo_len] at hown ⊢
  have hbs : w.heap.size ≤ w1.heap.size := hb.size
  have HB1 := Lib.hid hb
  rcases own_some hown with ⟨-, h0, -⟩ | ⟨g, rfl, hnc⟩
  · omega
  obtain ⟨hgl, -, hcells⟩ := own_cells hown
  rw [HORD.out] at hcells
  have HOC := Lib.hid hcells
  clear hown hb hcells
  by_cases hn1 : n = 1
  · subst hn1
    have HL1 := Lib.hid (lay_heads' [[0]] w1 (by simp) (by decide))
    have HB2 := Lib.hid (below_then HB1.out (lay_all [[0]] w1 (.cells (rowVals (rowsAt w1.heap.size [[0]])).toArray 39)) hbs)
    have hT1 : T = [[0]] := by
      rw [← HT.out]
      have h := HWI.out 0 (by rw [HOL.out]; exact Nat.one_pos)
      have hm := ord_mem (List.getElem_mem (by rw [HOL.out]; exact Nat.one_pos : 0 < (ord xs).length))
      rw [HX.out] at hm
      have hz : (wk W 0).1 = 0 := by rw [h]; omega
      show [listT (wk W 0, wk W 0)] = _
      rw [list_alone, hz]
    have HT1 := Lib.hid hT1
    have HS1 : Hid (SG = []) := by show _ = _; rw [← HSG.out]; rfl
    have HE1 : Hid (EV = false) := by show _ = _; rw [← HEV.out]; rfl
    clear hT1 HT HSG HEV
    go_wp2
    refine bodyPost_ret (v := .tuple #[.slice (some ⟨w1.heap.size + 1, 0, none⟩) 1 1, .string ⟨#[]⟩, .bool false]) (by simp [results, Try.results93, go_sem]) rfl ?_
    rw [HT1.out, HS1.out, HE1.out]
    exact ⟨_, _, rowsAt w1.heap.size [[0]], rfl, rowsAt_nums _ _, HL1.out.raise hbs, HB2.out⟩
  · have hne1 : ((n : Int) == 1) = false := by simp; omega
    have hn2 : 2 ≤ n := by omega
    obtain ⟨bA, oA, rfl, hblA, -⟩ := hA.look (k := 0) (by rw [nums_len, HX.out]; omega)
    have hid : ∀ k, k < n → ∃ i : Nat, (wk W k).1 = (i : Int) ∧ i < n ∧ (wk W k).2 = tm xs i ∧ 1 ≤ tm xs i ∧ tm xs i ≤ 1000 ∧ w1.cell? ⟨g, k, none⟩ = some (.int .i64 i) ∧ w1.cell? ⟨bA, oA + i, none⟩ = some (.int .i64 (tm xs i)) := by
      intro k hk
      have hko : k < (ord xs).length := by rw [HOL.out]; exact hk
      have hwk := HWI.out k hko
      have hm := ord_mem (List.getElem_mem hko)
      obtain ⟨i, hi⟩ := Int.eq_ofNat_of_zero_le hm.1
      have hix : i < xs.length := by omega
      obtain ⟨b2, o2, hab, -, hc2⟩ := hA.look (k := i) (by rw [nums_len]; exact hix)
      obtain ⟨rfl, rfl⟩ : bA = b2 ∧ oA = o2 := by simpa using hab
      have hxi := HM.out _ (List.getElem_mem hix)
      have htm := tm_at hix
      refine ⟨i, by rw [hwk]; exact hi, by have := HX.out; omega, by rw [hwk, hi], by rw [htm]; exact hxi.1, by rw [htm]; exact hxi.2, HOC.out k _ (by simp [nums, hko, hi]), ?_⟩
      rw [HB1.out.cell (p := ⟨bA, oA + i, none⟩) hblA, hc2]
      simp [nums, htm]
    have HID := Lib.hid hid
    obtain ⟨ia, ha1, ha2, ha3, ha4, ha5, ha6, ha7⟩ := hid 0 (by omega)
    obtain ⟨ib, hb1, hb2, hb3, hb4, hb5, hb6, hb7⟩ := hid 1 (by omega)
    have HA1 := Lib.hid ha1
    have HA3 := Lib.hid ha3
    have HB1' := Lib.hid hb1
    have HB3 := Lib.hid hb3
    have h0n : (0 : Int) < (n : Int) := by omega
    have h1n : (1 : Int) < (n : Int) := by omega
    have hbA1 : bA < w1.heap.size := Nat.lt_of_lt_of_le hblA hbs
    clear hid ha1 ha3 hb1 hb3 hn1
    go_wp2_with fail
    go_quiet (fail)
    rename_i nq
    clear ha6 hb6
    go_wp2_with fail
    go_loopw [8, 11, 12, 13] (fun v8 v11 v12 v13 wr => ∃ (k : Nat) (E : Option Addr) (d : Nat) (acc : List RowV), 2 ≤ k ∧ k ≤ n ∧ v8 = .int .i64 k ∧ v11 = .slice E acc.length d ∧ PrTo T SG EV (!e) W k w1.heap.size w1 wr v12 v13 E d acc) (fun v8 _ _ _ _ => (intOf v8).toNat)
    case atStart => exact ⟨n, none, 0, [], hn2, Nat.le_refl _, rfl, rfl, HT.out, Heads.nil _ _, ⟨[], rfl, HSG.out⟩, ⟨false, rfl, HEV.out⟩, below_draws (Below.refl _ _) _⟩
    case round =>
      obtain ⟨k, E, d, acc, hk2, hkn, rfl, rfl, hT, hh, ⟨l, rfl, hSG⟩, ⟨ev, rfl, hEV⟩, hb⟩ := hrel
      have hwz : w1.heap.size ≤ wr.heap.size := hb.size
      have hal : acc.length ≤ 24 := by
        have h := congrArg List.length hT
        rw [List.length_append, rowNums_len] at h
        omega
      have hll : l.length ≤ 12 := by
        have h := congrArg List.length hSG
        rw [List.length_append] at h
        omega
      have HH := Lib.hid hh
      have HB := Lib.hid hb
      by_cases hk4 : 4 ≤ k
      · obtain ⟨y, hky⟩ : ∃ y, y + 2 = k := ⟨k - 2, by omega⟩
        obtain ⟨z, hkz⟩ : ∃ z, z + 1 = k := ⟨k - 1, by omega⟩
        obtain ⟨iy, hy1, hy2, hy3, hy4, hy5, hy6, hy7⟩ := HID.out y (by omega)
        obtain ⟨iz, hz1, hz2, hz3, hz4, hz5, hz6, hz7⟩ := HID.out z (by omega)
        have hT2 : rowNums acc ++ ((round (!e) W y).map listT ++ (tripsT (!e) W y).map listT) = T := by rw [← tripsM_step (!e) W hk4 hky]; exact hT
        have hSG2 : l ++ (signR (!e) W y :: signsT (!e) W y) = SG := by rw [← signsT_step (!e) W hk4 hky]; exact hSG
        have hEV2 : (ev || (decide (gainOf W y = 0) || evenT W y)) = EV := by rw [← evenT_step W hk4 hky]; exact hEV
        have hgain : gainOf W y = tm xs ia + tm xs iy - 2 * tm xs ib := by
          show (wk W 0).2 + (wk W y).2 - 2 * (wk W 1).2 = _
          rw [HA3.out, HB3.out, hy3]
        have hs2 : (k : Int) - 2 = (y : Int) := by omega
        have hs1 : (k : Int) - 1 = (z : Int) := by omega
        have hw2 : IntKind.i64.wrap ((k : Int) - 2) = (y : Int) := by rw [hs2]; exact IntWalk.i64_in _ (by omega)
        have hw1 : IntKind.i64.wrap ((k : Int) - 1) = (z : Int) := by rw [hs1]; exact IntWalk.i64_in _ (by omega)
        have hwy : IntKind.i64.wrap (y : Int) = (y : Int) := IntWalk.i64_in _ (by omega)
        have hwz' : IntKind.i64.wrap (z : Int) = (z : Int) := IntWalk.i64_in _ (by omega)
        have hk3 : (3 : Int) < (k : Int) := by omega
        have hyn : (y : Int) < (n : Int) := by omega
        have hzn : (z : Int) < (n : Int) := by omega
        have hiy : (iy : Int) < (n : Int) := by omega
        have hia : (ia : Int) < (n : Int) := by omega
        have hib : (ib : Int) < (n : Int) := by omega
        have cy := (hb.cell (p := ⟨g, y, none⟩) hgl).trans hy6
        have cz := (hb.cell (p := ⟨g, z, none⟩) hgl).trans hz6
        have ty := (hb.cell (p := ⟨bA, oA + iy, none⟩) hbA1).trans hy7
        have ta := (hb.cell (p := ⟨bA, oA + ia, none⟩) hbA1).trans ha7
        have tb := (hb.cell (p := ⟨bA, oA + ib, none⟩) hbA1).trans hb7
        generalize tm xs ia = xa at *
        generalize tm xs ib = xb at *
        generalize tm xs iy = xy at *
        have hm1 : IntKind.i64.wrap (2 * xb) = 2 * xb := IntWalk.i64_in _ (by omega)
        have hm2 : IntKind.i64.wrap (xa + xy) = xa + xy := IntWalk.i64_in _ (by omega)
        have HT2 := Lib.hid hT2
        have HSG2 := Lib.hid hSG2
        have HEV2 := Lib.hid hEV2
        have HGN := Lib.hid hgain
        have HY1 := Lib.hid hy1
        have HZ1 := Lib.hid hz1
        have HKY := Lib.hid hky
        have HKZ := Lib.hid hkz
        clear hT hSG hEV hT2 hSG2 hEV2 hgain hy1 hz1 hy3 hz3 hky hkz hh hb hy6 hz6 hy7 hz7
        go_wp2_with fail
        go_quiet (fail)
        rename_i nq1
        go_wp2_with fail
        go_quiet (fail)
        rename_i nq2
        clear cy cz ty ta tb
        refine (?_ : ∀ W0 : World, Below wr.heap.size wr W0 → Exit.then _ _ _ _ W0) _ (below_draws (below_draws (Below.refl _ _) _) _)
        intro w5 hb5
        have hz5 : w1.heap.size ≤ w5.heap.size := Nat.le_trans hwz hb5.size
        have HH5 := Lib.hid (HH.out.below hb5)
        have HB5 := Lib.hid (below_then HB.out hb5 hwz)
        clear hb5
        have hcat := fun (ch : UInt8) (W : World) => cat_sign l ch (by omega) W
        have hgn := HGN.out
        by_cases hg : 0 < gainOf W y
        · have hl1 : 2 * xb < xa + xy := by omega
          have HEV3 : Hid ((ev || evenT W y) = EV) := by show _ = _; rw [← HEV2.out]; congr 1; rw [show decide (gainOf W y = 0) = false by simp; omega, Bool.false_or]
          have he1 : ((2 * xb : Int) == xa + xy) = false := by simp; omega
          have HG := Lib.hid hg
          clear hgn hg
          cases e
          · have HL : Hid ((round (!false) W y).map listT = [[min (ia : Int) (ib : Int), max (ia : Int) (ib : Int)], [(ia : Int)], [min (iy : Int) (iz : Int), max (iy : Int) (iz : Int)], [(ib : Int)]]) := by
              show _ = _
              have h := fetch_lists HGW.out (by omega) (by rw [HWL.out]; have := HKZ.out; have := HKY.out; omega) HG.out
              rw [HA1.out, HB1'.out, HY1.out, show (wk W (y + 1)).1 = (iz : Int) by rw [show y + 1 = z by have := HKY.out; have := HKZ.out; omega]; exact HZ1.out] at h
              exact h
            have HAC : Hid (rowNums acc ++ ([[min (ia : Int) (ib : Int), max (ia : Int) (ib : Int)], [(ia : Int)], [min (iy : Int) (iz : Int), max (iy : Int) (iz : Int)], [(ib : Int)]] ++ (tripsT (!false) W y).map listT) = T) := by show _ = _; rw [← HL.out]; exact HT2.out
            have HSN : Hid (l ++ [102] ++ signsT (!false) W y = SG) := by show _ = _; rw [← HSG2.out, List.append_assoc, show signR (!false) W y = 102 from if_pos (by simp [HG.out])]; rfl
            have HMX := Lib.hid (show acc.length + 4 ≤ maxLen by unfold maxLen; omega)
            have HBY := Lib.hid (show (acc.length + 4) * 24 ≤ 140737488355328 by omega)
            have HBS := Lib.hid (show w1.heap.size ≤ ((lay w5 [[min (ia : Int) (ib : Int), max (ia : Int) (ib : Int)], [(ia : Int)], [min (iy : Int) (iz : Int), max (iy : Int) (iz : Int)], [(ib : Int)]]).alloc (.cells (rowVals (rowsAt w5.heap.size [[min (ia : Int) (ib : Int), max (ia : Int) (ib : Int)], [(ia : Int)], [min (iy : Int) (iz : Int), max (iy : Int) (iz : Int)], [(ib : Int)]])).toArray 39)).heap.size by rw [laid_size]; omega)
            have HLB := Lib.hid (lay_all [[min (ia : Int) (ib : Int), max (ia : Int) (ib : Int)], [(ia : Int)], [min (iy : Int) (iz : Int), max (iy : Int) (iz : Int)], [(ib : Int)]] w5 (.cells (rowVals (rowsAt w5.heap.size [[min (ia : Int) (ib : Int), max (ia : Int) (ib : Int)], [(ia : Int)], [min (iy : Int) (iz : Int), max (iy : Int) (iz : Int)], [(ib : Int)]])).toArray 39))
            have HHA := Lib.hid ((HH5.out.below (lay_all [[min (ia : Int) (ib : Int), max (ia : Int) (ib : Int)], [(ia : Int)], [min (iy : Int) (iz : Int), max (iy : Int) (iz : Int)], [(ib : Int)]] w5 (.cells (rowVals (rowsAt w5.heap.size [[min (ia : Int) (ib : Int), max (ia : Int) (ib : Int)], [(ia : Int)], [min (iy : Int) (iz : Int), max (iy : Int) (iz : Int)], [(ib : Int)]])).toArray 39))).1)
            have HLH := Lib.hid (lay_heads' [[min (ia : Int) (ib : Int), max (ia : Int) (ib : Int)], [(ia : Int)], [min (iy : Int) (iz : Int), max (iy : Int) (iz : Int)], [(ib : Int)]] w5 (by simp) (by show 4 ≤ maxLen; decide))
            cases ev
            all_goals
              go_wp2_with (first | (go_at_call 100; refine (prPair_any _ _ _).mono ?_; rintro e' w' ⟨rfl, rfl⟩) | (at_builtin; refine wpList_append_lies _ rfl (.tmp 71) (.tmp 82) 49 rfl w1.heap.size 39 i1 (.slice none 0 0) 1 24 Try.underlying49 RI.out RZ0.out RZ1.out RZ2.out rfl (by decide) (.slice E acc.length d) acc.length (rowVals acc) rfl HHA.out ⟨w5.heap.size + 4, 0, none⟩ 4 4 (rowVals (rowsAt w5.heap.size [[min (ia : Int) (ib : Int), max (ia : Int) (ib : Int)], [(ia : Int)], [min (iy : Int) (iz : Int), max (iy : Int) (iz : Int)], [(ib : Int)]])) rfl (rowsAt_vals _ _) (lay_news' [[min (ia : Int) (ib : Int), max (ia : Int) (ib : Int)], [(ia : Int)], [min (iy : Int) (iz : Int), max (iy : Int) (iz : Int)], [(ib : Int)]] w5) (rowVals_one' _) (by decide) HMX.out HBY.out HBS.out (w5.heap.size + 4 + 1) (laid_size [[min (ia : Int) (ib : Int), max (ia : Int) (ib : Int)], [(ia : Int)], [min (iy : Int) (iz : Int), max (iy : Int) (iz : Int)], [(ib : Int)]] _ _) ?_; intro g3 c3 w3 hown3 hg3 hat3 hlt3))
              have hat3' : (Value.slice E acc.length d).ownBlock = some g3 ∨ g3 = ((lay w5 [[min (ia : Int) (ib : Int), max (ia : Int) (ib : Int)], [(ia : Int)], [min (iy : Int) (iz : Int), max (iy : Int) (iz : Int)], [(ib : Int)]]).alloc (.cells (rowVals (rowsAt w5.heap.size [[min (ia : Int) (ib : Int), max (ia : Int) (ib : Int)], [(ia : Int)], [min (iy : Int) (iz : Int), max (iy : Int) (iz : Int)], [(ib : Int)]])).toArray 39)).heap.size := by rw [laid_size]; exact hat3
              have HJ := Lib.hid (Heads.join HH5.out hz5 HLB.out HLH.out (by rw [rowsAt_len]; exact hown3) hg3 hat3')
              have HBJ := Lib.hid ((below_then HB5.out HLB.out hz5).grown hg3 HBS.out (fun kk e => (HHA.out.lt kk e).1))
              clear hown3 hg3 hat3 hat3' hlt3
              have HLR : Hid ((acc ++ rowsAt w5.heap.size [[min (ia : Int) (ib : Int), max (ia : Int) (ib : Int)], [(ia : Int)], [min (iy : Int) (iz : Int), max (iy : Int) (iz : Int)], [(ib : Int)]]).length = acc.length + 4) := by show _ = _; rw [List.length_append, rowsAt_len]; rfl
              go_wp2
              go_roundw
              case rel => exact ⟨y, some ⟨g3, 0, none⟩, c3, acc ++ rowsAt w5.heap.size [[min (ia : Int) (ib : Int), max (ia : Int) (ib : Int)], [(ia : Int)], [min (iy : Int) (iz : Int), max (iy : Int) (iz : Int)], [(ib : Int)]], by omega, by omega, by go_num, by rw [HLR.out], by rw [show rowNums (acc ++ rowsAt w5.heap.size [[min (ia : Int) (ib : Int), max (ia : Int) (ib : Int)], [(ia : Int)], [min (iy : Int) (iz : Int), max (iy : Int) (iz : Int)], [(ib : Int)]]) = rowNums acc ++ rowNums (rowsAt w5.heap.size [[min (ia : Int) (ib : Int), max (ia : Int) (ib : Int)], [(ia : Int)], [min (iy : Int) (iz : Int), max (iy : Int) (iz : Int)], [(ib : Int)]]) by simp [rowNums], rowsAt_nums, List.append_assoc]; exact HAC.out, HJ.out, ⟨l ++ [102], rfl, HSN.out⟩, ⟨_, rfl, HEV3.out⟩, HBJ.out⟩
              case measure => simp [intOf]; omega
          · have HL : Hid ((round (!true) W y).map listT = [[min (ia : Int) (iz : Int), max (ia : Int) (iz : Int)], [(ia : Int)], [min (ia : Int) (iy : Int), max (ia : Int) (iy : Int)], [(ia : Int)]]) := by
              show _ = _
              have h := escort_lists (f := !true) (y := y) HGW.out (by omega) (by rw [HWL.out]; have := HKZ.out; have := HKY.out; omega) (by simp)
              rw [HA1.out, HY1.out, show (wk W (y + 1)).1 = (iz : Int) by rw [show y + 1 = z by have := HKY.out; have := HKZ.out; omega]; exact HZ1.out] at h
              exact h
            have HAC : Hid (rowNums acc ++ ([[min (ia : Int) (iz : Int), max (ia : Int) (iz : Int)], [(ia : Int)], [min (ia : Int) (iy : Int), max (ia : Int) (iy : Int)], [(ia : Int)]] ++ (tripsT (!true) W y).map listT) = T) := by show _ = _; rw [← HL.out]; exact HT2.out
            have HSN : Hid (l ++ [101] ++ signsT (!true) W y = SG) := by show _ = _; rw [← HSG2.out, List.append_assoc, show signR (!true) W y = 101 from if_neg (by simp)]; rfl
            have HMX := Lib.hid (show acc.length + 4 ≤ maxLen by unfold maxLen; omega)
            have HBY := Lib.hid (show (acc.length + 4) * 24 ≤ 140737488355328 by omega)
            have HBS := Lib.hid (show w1.heap.size ≤ ((lay w5 [[min (ia : Int) (iz : Int), max (ia : Int) (iz : Int)], [(ia : Int)], [min (ia : Int) (iy : Int), max (ia : Int) (iy : Int)], [(ia : Int)]]).alloc (.cells (rowVals (rowsAt w5.heap.size [[min (ia : Int) (iz : Int), max (ia : Int) (iz : Int)], [(ia : Int)], [min (ia : Int) (iy : Int), max (ia : Int) (iy : Int)], [(ia : Int)]])).toArray 39)).heap.size by rw [laid_size]; omega)
            have HLB := Lib.hid (lay_all [[min (ia : Int) (iz : Int), max (ia : Int) (iz : Int)], [(ia : Int)], [min (ia : Int) (iy : Int), max (ia : Int) (iy : Int)], [(ia : Int)]] w5 (.cells (rowVals (rowsAt w5.heap.size [[min (ia : Int) (iz : Int), max (ia : Int) (iz : Int)], [(ia : Int)], [min (ia : Int) (iy : Int), max (ia : Int) (iy : Int)], [(ia : Int)]])).toArray 39))
            have HHA := Lib.hid ((HH5.out.below (lay_all [[min (ia : Int) (iz : Int), max (ia : Int) (iz : Int)], [(ia : Int)], [min (ia : Int) (iy : Int), max (ia : Int) (iy : Int)], [(ia : Int)]] w5 (.cells (rowVals (rowsAt w5.heap.size [[min (ia : Int) (iz : Int), max (ia : Int) (iz : Int)], [(ia : Int)], [min (ia : Int) (iy : Int), max (ia : Int) (iy : Int)], [(ia : Int)]])).toArray 39))).1)
            have HLH := Lib.hid (lay_heads' [[min (ia : Int) (iz : Int), max (ia : Int) (iz : Int)], [(ia : Int)], [min (ia : Int) (iy : Int), max (ia : Int) (iy : Int)], [(ia : Int)]] w5 (by simp) (by show 4 ≤ maxLen; decide))
            cases ev
            all_goals
              go_wp2_with (first | (go_at_call 100; refine (prPair_any _ _ _).mono ?_; rintro e' w' ⟨rfl, rfl⟩) | (at_builtin; refine wpList_append_lies _ rfl (.tmp 86) (.tmp 97) 49 rfl w1.heap.size 39 i1 (.slice none 0 0) 1 24 Try.underlying49 RI.out RZ0.out RZ1.out RZ2.out rfl (by decide) (.slice E acc.length d) acc.length (rowVals acc) rfl HHA.out ⟨w5.heap.size + 4, 0, none⟩ 4 4 (rowVals (rowsAt w5.heap.size [[min (ia : Int) (iz : Int), max (ia : Int) (iz : Int)], [(ia : Int)], [min (ia : Int) (iy : Int), max (ia : Int) (iy : Int)], [(ia : Int)]])) rfl (rowsAt_vals _ _) (lay_news' [[min (ia : Int) (iz : Int), max (ia : Int) (iz : Int)], [(ia : Int)], [min (ia : Int) (iy : Int), max (ia : Int) (iy : Int)], [(ia : Int)]] w5) (rowVals_one' _) (by decide) HMX.out HBY.out HBS.out (w5.heap.size + 4 + 1) (laid_size [[min (ia : Int) (iz : Int), max (ia : Int) (iz : Int)], [(ia : Int)], [min (ia : Int) (iy : Int), max (ia : Int) (iy : Int)], [(ia : Int)]] _ _) ?_; intro g3 c3 w3 hown3 hg3 hat3 hlt3))
              have hat3' : (Value.slice E acc.length d).ownBlock = some g3 ∨ g3 = ((lay w5 [[min (ia : Int) (iz : Int), max (ia : Int) (iz : Int)], [(ia : Int)], [min (ia : Int) (iy : Int), max (ia : Int) (iy : Int)], [(ia : Int)]]).alloc (.cells (rowVals (rowsAt w5.heap.size [[min (ia : Int) (iz : Int), max (ia : Int) (iz : Int)], [(ia : Int)], [min (ia : Int) (iy : Int), max (ia : Int) (iy : Int)], [(ia : Int)]])).toArray 39)).heap.size := by rw [laid_size]; exact hat3
              have HJ := Lib.hid (Heads.join HH5.out hz5 HLB.out HLH.out (by rw [rowsAt_len]; exact hown3) hg3 hat3')
              have HBJ := Lib.hid ((below_then HB5.out HLB.out hz5).grown hg3 HBS.out (fun kk e => (HHA.out.lt kk e).1))
              clear hown3 hg3 hat3 hat3' hlt3
              have HLR : Hid ((acc ++ rowsAt w5.heap.size [[min (ia : Int) (iz : Int), max (ia : Int) (iz : Int)], [(ia : Int)], [min (ia : Int) (iy : Int), max (ia : Int) (iy : Int)], [(ia : Int)]]).length = acc.length + 4) := by show _ = _; rw [List.length_append, rowsAt_len]; rfl
              go_wp2
              go_roundw
              case rel => exact ⟨y, some ⟨g3, 0, none⟩, c3, acc ++ rowsAt w5.heap.size [[min (ia : Int) (iz : Int), max (ia : Int) (iz : Int)], [(ia : Int)], [min (ia : Int) (iy : Int), max (ia : Int) (iy : Int)], [(ia : Int)]], by omega, by omega, by go_num, by rw [HLR.out], by rw [show rowNums (acc ++ rowsAt w5.heap.size [[min (ia : Int) (iz : Int), max (ia : Int) (iz : Int)], [(ia : Int)], [min (ia : Int) (iy : Int), max (ia : Int) (iy : Int)], [(ia : Int)]]) = rowNums acc ++ rowNums (rowsAt w5.heap.size [[min (ia : Int) (iz : Int), max (ia : Int) (iz : Int)], [(ia : Int)], [min (ia : Int) (iy : Int), max (ia : Int) (iy : Int)], [(ia : Int)]]) by simp [rowNums], rowsAt_nums, List.append_assoc]; exact HAC.out, HJ.out, ⟨l ++ [101], rfl, HSN.out⟩, ⟨_, rfl, HEV3.out⟩, HBJ.out⟩
              case measure => simp [intOf]; omega
        · have hl1 : ¬ 2 * xb < xa + xy := by omega
          have hl2 : decide (2 * xb < xa + xy) = false := by simp; omega
          have HG := Lib.hid hg
          clear hg
          by_cases h0 : gainOf W y = 0
          · have HEV3 : Hid ((true || evenT W y) = EV) := by show _ = _; rw [← HEV2.out, h0]; simp
            have he1 : ((2 * xb : Int) == xa + xy) = true := by simp; omega
            clear hgn h0
            have HL : Hid ((round (!e) W y).map listT = [[min (ia : Int) (iz : Int), max (ia : Int) (iz : Int)], [(ia : Int)], [min (ia : Int) (iy : Int), max (ia : Int) (iy : Int)], [(ia : Int)]]) := by
              show _ = _
              have h := escort_lists (f := !e) (y := y) HGW.out (by omega) (by rw [HWL.out]; have := HKZ.out; have := HKY.out; omega) (by rw [show decide (0 < gainOf W y) = false from decide_eq_false HG.out, Bool.and_false])
              rw [HA1.out, HY1.out, show (wk W (y + 1)).1 = (iz : Int) by rw [show y + 1 = z by have := HKY.out; have := HKZ.out; omega]; exact HZ1.out] at h
              exact h
            have HAC : Hid (rowNums acc ++ ([[min (ia : Int) (iz : Int), max (ia : Int) (iz : Int)], [(ia : Int)], [min (ia : Int) (iy : Int), max (ia : Int) (iy : Int)], [(ia : Int)]] ++ (tripsT (!e) W y).map listT) = T) := by show _ = _; rw [← HL.out]; exact HT2.out
            have HSN : Hid (l ++ [101] ++ signsT (!e) W y = SG) := by show _ = _; rw [← HSG2.out, List.append_assoc, show signR (!e) W y = 101 from (by rw [signR, show decide (0 < gainOf W y) = false from decide_eq_false HG.out, Bool.and_false]; rfl)]; rfl
            have HMX := Lib.hid (show acc.length + 4 ≤ maxLen by unfold maxLen; omega)
            have HBY := Lib.hid (show (acc.length + 4) * 24 ≤ 140737488355328 by omega)
            have HBS := Lib.hid (show w1.heap.size ≤ ((lay w5 [[min (ia : Int) (iz : Int), max (ia : Int) (iz : Int)], [(ia : Int)], [min (ia : Int) (iy : Int), max (ia : Int) (iy : Int)], [(ia : Int)]]).alloc (.cells (rowVals (rowsAt w5.heap.size [[min (ia : Int) (iz : Int), max (ia : Int) (iz : Int)], [(ia : Int)], [min (ia : Int) (iy : Int), max (ia : Int) (iy : Int)], [(ia : Int)]])).toArray 39)).heap.size by rw [laid_size]; omega)
            have HLB := Lib.hid (lay_all [[min (ia : Int) (iz : Int), max (ia : Int) (iz : Int)], [(ia : Int)], [min (ia : Int) (iy : Int), max (ia : Int) (iy : Int)], [(ia : Int)]] w5 (.cells (rowVals (rowsAt w5.heap.size [[min (ia : Int) (iz : Int), max (ia : Int) (iz : Int)], [(ia : Int)], [min (ia : Int) (iy : Int), max (ia : Int) (iy : Int)], [(ia : Int)]])).toArray 39))
            have HHA := Lib.hid ((HH5.out.below (lay_all [[min (ia : Int) (iz : Int), max (ia : Int) (iz : Int)], [(ia : Int)], [min (ia : Int) (iy : Int), max (ia : Int) (iy : Int)], [(ia : Int)]] w5 (.cells (rowVals (rowsAt w5.heap.size [[min (ia : Int) (iz : Int), max (ia : Int) (iz : Int)], [(ia : Int)], [min (ia : Int) (iy : Int), max (ia : Int) (iy : Int)], [(ia : Int)]])).toArray 39))).1)
            have HLH := Lib.hid (lay_heads' [[min (ia : Int) (iz : Int), max (ia : Int) (iz : Int)], [(ia : Int)], [min (ia : Int) (iy : Int), max (ia : Int) (iy : Int)], [(ia : Int)]] w5 (by simp) (by show 4 ≤ maxLen; decide))
            cases ev
            all_goals
              go_wp2_with (first | (go_at_call 100; refine (prPair_any _ _ _).mono ?_; rintro e' w' ⟨rfl, rfl⟩) | (at_builtin; refine wpList_append_lies _ rfl (.tmp 86) (.tmp 97) 49 rfl w1.heap.size 39 i1 (.slice none 0 0) 1 24 Try.underlying49 RI.out RZ0.out RZ1.out RZ2.out rfl (by decide) (.slice E acc.length d) acc.length (rowVals acc) rfl HHA.out ⟨w5.heap.size + 4, 0, none⟩ 4 4 (rowVals (rowsAt w5.heap.size [[min (ia : Int) (iz : Int), max (ia : Int) (iz : Int)], [(ia : Int)], [min (ia : Int) (iy : Int), max (ia : Int) (iy : Int)], [(ia : Int)]])) rfl (rowsAt_vals _ _) (lay_news' [[min (ia : Int) (iz : Int), max (ia : Int) (iz : Int)], [(ia : Int)], [min (ia : Int) (iy : Int), max (ia : Int) (iy : Int)], [(ia : Int)]] w5) (rowVals_one' _) (by decide) HMX.out HBY.out HBS.out (w5.heap.size + 4 + 1) (laid_size [[min (ia : Int) (iz : Int), max (ia : Int) (iz : Int)], [(ia : Int)], [min (ia : Int) (iy : Int), max (ia : Int) (iy : Int)], [(ia : Int)]] _ _) ?_; intro g3 c3 w3 hown3 hg3 hat3 hlt3))
              have hat3' : (Value.slice E acc.length d).ownBlock = some g3 ∨ g3 = ((lay w5 [[min (ia : Int) (iz : Int), max (ia : Int) (iz : Int)], [(ia : Int)], [min (ia : Int) (iy : Int), max (ia : Int) (iy : Int)], [(ia : Int)]]).alloc (.cells (rowVals (rowsAt w5.heap.size [[min (ia : Int) (iz : Int), max (ia : Int) (iz : Int)], [(ia : Int)], [min (ia : Int) (iy : Int), max (ia : Int) (iy : Int)], [(ia : Int)]])).toArray 39)).heap.size := by rw [laid_size]; exact hat3
              have HJ := Lib.hid (Heads.join HH5.out hz5 HLB.out HLH.out (by rw [rowsAt_len]; exact hown3) hg3 hat3')
              have HBJ := Lib.hid ((below_then HB5.out HLB.out hz5).grown hg3 HBS.out (fun kk e => (HHA.out.lt kk e).1))
              clear hown3 hg3 hat3 hat3' hlt3
              have HLR : Hid ((acc ++ rowsAt w5.heap.size [[min (ia : Int) (iz : Int), max (ia : Int) (iz : Int)], [(ia : Int)], [min (ia : Int) (iy : Int), max (ia : Int) (iy : Int)], [(ia : Int)]]).length = acc.length + 4) := by show _ = _; rw [List.length_append, rowsAt_len]; rfl
              go_wp2
              go_roundw
              case rel => exact ⟨y, some ⟨g3, 0, none⟩, c3, acc ++ rowsAt w5.heap.size [[min (ia : Int) (iz : Int), max (ia : Int) (iz : Int)], [(ia : Int)], [min (ia : Int) (iy : Int), max (ia : Int) (iy : Int)], [(ia : Int)]], by omega, by omega, by go_num, by rw [HLR.out], by rw [show rowNums (acc ++ rowsAt w5.heap.size [[min (ia : Int) (iz : Int), max (ia : Int) (iz : Int)], [(ia : Int)], [min (ia : Int) (iy : Int), max (ia : Int) (iy : Int)], [(ia : Int)]]) = rowNums acc ++ rowNums (rowsAt w5.heap.size [[min (ia : Int) (iz : Int), max (ia : Int) (iz : Int)], [(ia : Int)], [min (ia : Int) (iy : Int), max (ia : Int) (iy : Int)], [(ia : Int)]]) by simp [rowNums], rowsAt_nums, List.append_assoc]; exact HAC.out, HJ.out, ⟨l ++ [101], rfl, HSN.out⟩, ⟨_, rfl, HEV3.out⟩, HBJ.out⟩
              case measure => simp [intOf]; omega
          · have HEV3 : Hid ((ev || evenT W y) = EV) := by show _ = _; rw [← HEV2.out, show decide (gainOf W y = 0) = false by simp [h0], Bool.false_or]
            have he1 : ((2 * xb : Int) == xa + xy) = false := by simp; omega
            clear hgn h0
            have HL : Hid ((round (!e) W y).map listT = [[min (ia : Int) (iz : Int), max (ia : Int) (iz : Int)], [(ia : Int)], [min (ia : Int) (iy : Int), max (ia : Int) (iy : Int)], [(ia : Int)]]) := by
              show _ = _
              have h := escort_lists (f := !e) (y := y) HGW.out (by omega) (by rw [HWL.out]; have := HKZ.out; have := HKY.out; omega) (by rw [show decide (0 < gainOf W y) = false from decide_eq_false HG.out, Bool.and_false])
              rw [HA1.out, HY1.out, show (wk W (y + 1)).1 = (iz : Int) by rw [show y + 1 = z by have := HKY.out; have := HKZ.out; omega]; exact HZ1.out] at h
              exact h
            have HAC : Hid (rowNums acc ++ ([[min (ia : Int) (iz : Int), max (ia : Int) (iz : Int)], [(ia : Int)], [min (ia : Int) (iy : Int), max (ia : Int) (iy : Int)], [(ia : Int)]] ++ (tripsT (!e) W y).map listT) = T) := by show _ = _; rw [← HL.out]; exact HT2.out
            have HSN : Hid (l ++ [101] ++ signsT (!e) W y = SG) := by show _ = _; rw [← HSG2.out, List.append_assoc, show signR (!e) W y = 101 from (by rw [signR, show decide (0 < gainOf W y) = false from decide_eq_false HG.out, Bool.and_false]; rfl)]; rfl
            have HMX := Lib.hid (show acc.length + 4 ≤ maxLen by unfold maxLen; omega)
            have HBY := Lib.hid (show (acc.length + 4) * 24 ≤ 140737488355328 by omega)
            have HBS := Lib.hid (show w1.heap.size ≤ ((lay w5 [[min (ia : Int) (iz : Int), max (ia : Int) (iz : Int)], [(ia : Int)], [min (ia : Int) (iy : Int), max (ia : Int) (iy : Int)], [(ia : Int)]]).alloc (.cells (rowVals (rowsAt w5.heap.size [[min (ia : Int) (iz : Int), max (ia : Int) (iz : Int)], [(ia : Int)], [min (ia : Int) (iy : Int), max (ia : Int) (iy : Int)], [(ia : Int)]])).toArray 39)).heap.size by rw [laid_size]; omega)
            have HLB := Lib.hid (lay_all [[min (ia : Int) (iz : Int), max (ia : Int) (iz : Int)], [(ia : Int)], [min (ia : Int) (iy : Int), max (ia : Int) (iy : Int)], [(ia : Int)]] w5 (.cells (rowVals (rowsAt w5.heap.size [[min (ia : Int) (iz : Int), max (ia : Int) (iz : Int)], [(ia : Int)], [min (ia : Int) (iy : Int), max (ia : Int) (iy : Int)], [(ia : Int)]])).toArray 39))
            have HHA := Lib.hid ((HH5.out.below (lay_all [[min (ia : Int) (iz : Int), max (ia : Int) (iz : Int)], [(ia : Int)], [min (ia : Int) (iy : Int), max (ia : Int) (iy : Int)], [(ia : Int)]] w5 (.cells (rowVals (rowsAt w5.heap.size [[min (ia : Int) (iz : Int), max (ia : Int) (iz : Int)], [(ia : Int)], [min (ia : Int) (iy : Int), max (ia : Int) (iy : Int)], [(ia : Int)]])).toArray 39))).1)
            have HLH := Lib.hid (lay_heads' [[min (ia : Int) (iz : Int), max (ia : Int) (iz : Int)], [(ia : Int)], [min (ia : Int) (iy : Int), max (ia : Int) (iy : Int)], [(ia : Int)]] w5 (by simp) (by show 4 ≤ maxLen; decide))
            cases ev
            all_goals
              go_wp2_with (first | (go_at_call 100; refine (prPair_any _ _ _).mono ?_; rintro e' w' ⟨rfl, rfl⟩) | (at_builtin; refine wpList_append_lies _ rfl (.tmp 86) (.tmp 97) 49 rfl w1.heap.size 39 i1 (.slice none 0 0) 1 24 Try.underlying49 RI.out RZ0.out RZ1.out RZ2.out rfl (by decide) (.slice E acc.length d) acc.length (rowVals acc) rfl HHA.out ⟨w5.heap.size + 4, 0, none⟩ 4 4 (rowVals (rowsAt w5.heap.size [[min (ia : Int) (iz : Int), max (ia : Int) (iz : Int)], [(ia : Int)], [min (ia : Int) (iy : Int), max (ia : Int) (iy : Int)], [(ia : Int)]])) rfl (rowsAt_vals _ _) (lay_news' [[min (ia : Int) (iz : Int), max (ia : Int) (iz : Int)], [(ia : Int)], [min (ia : Int) (iy : Int), max (ia : Int) (iy : Int)], [(ia : Int)]] w5) (rowVals_one' _) (by decide) HMX.out HBY.out HBS.out (w5.heap.size + 4 + 1) (laid_size [[min (ia : Int) (iz : Int), max (ia : Int) (iz : Int)], [(ia : Int)], [min (ia : Int) (iy : Int), max (ia : Int) (iy : Int)], [(ia : Int)]] _ _) ?_; intro g3 c3 w3 hown3 hg3 hat3 hlt3))
              have hat3' : (Value.slice E acc.length d).ownBlock = some g3 ∨ g3 = ((lay w5 [[min (ia : Int) (iz : Int), max (ia : Int) (iz : Int)], [(ia : Int)], [min (ia : Int) (iy : Int), max (ia : Int) (iy : Int)], [(ia : Int)]]).alloc (.cells (rowVals (rowsAt w5.heap.size [[min (ia : Int) (iz : Int), max (ia : Int) (iz : Int)], [(ia : Int)], [min (ia : Int) (iy : Int), max (ia : Int) (iy : Int)], [(ia : Int)]])).toArray 39)).heap.size := by rw [laid_size]; exact hat3
              have HJ := Lib.hid (Heads.join HH5.out hz5 HLB.out HLH.out (by rw [rowsAt_len]; exact hown3) hg3 hat3')
              have HBJ := Lib.hid ((below_then HB5.out HLB.out hz5).grown hg3 HBS.out (fun kk e => (HHA.out.lt kk e).1))
              clear hown3 hg3 hat3 hat3' hlt3
              have HLR : Hid ((acc ++ rowsAt w5.heap.size [[min (ia : Int) (iz : Int), max (ia : Int) (iz : Int)], [(ia : Int)], [min (ia : Int) (iy : Int), max (ia : Int) (iy : Int)], [(ia : Int)]]).length = acc.length + 4) := by show _ = _; rw [List.length_append, rowsAt_len]; rfl
              go_wp2
              go_roundw
              case rel => exact ⟨y, some ⟨g3, 0, none⟩, c3, acc ++ rowsAt w5.heap.size [[min (ia : Int) (iz : Int), max (ia : Int) (iz : Int)], [(ia : Int)], [min (ia : Int) (iy : Int), max (ia : Int) (iy : Int)], [(ia : Int)]], by omega, by omega, by go_num, by rw [HLR.out], by rw [show rowNums (acc ++ rowsAt w5.heap.size [[min (ia : Int) (iz : Int), max (ia : Int) (iz : Int)], [(ia : Int)], [min (ia : Int) (iy : Int), max (ia : Int) (iy : Int)], [(ia : Int)]]) = rowNums acc ++ rowNums (rowsAt w5.heap.size [[min (ia : Int) (iz : Int), max (ia : Int) (iz : Int)], [(ia : Int)], [min (ia : Int) (iy : Int), max (ia : Int) (iy : Int)], [(ia : Int)]]) by simp [rowNums], rowsAt_nums, List.append_assoc]; exact HAC.out, HJ.out, ⟨l ++ [101], rfl, HSN.out⟩, ⟨_, rfl, HEV3.out⟩, HBJ.out⟩
              case measure => simp [intOf]; omega
      · have hk3 : ¬ (3 : Int) < (k : Int) := by omega
        have hgt : decide ((3 : Int) < (k : Int)) = false := by simp; omega
        obtain ⟨iy, hy1, hy2, hy3, hy4, hy5, hy6, hy7⟩ := HID.out 0 (by omega)
        have hls : listT (wk W 0, wk W 1) = [min (ia : Int) (ib : Int), max (ia : Int) (ib : Int)] := by
          rw [list_pair (HGW.out.two 0 1 (by omega) (by rw [HWL.out]; omega)).2, HA1.out, HB1'.out]
        have HLS := Lib.hid hls
        have HTT := Lib.hid hT
        have HSS := Lib.hid hSG
        have HEE := Lib.hid hEV
        clear hT hSG hEV hh hb hls hy1 hy2 hy3 hy4 hy5 hy6 hy7
        have HMX := Lib.hid (show acc.length + 1 ≤ maxLen by unfold maxLen; omega)
        have HBY := Lib.hid (show (acc.length + 1) * 24 ≤ 140737488355328 by omega)
        have HBS := Lib.hid (show w1.heap.size ≤ ((lay wr [[min (ia : Int) (ib : Int), max (ia : Int) (ib : Int)]]).alloc (.cells (rowVals (rowsAt wr.heap.size [[min (ia : Int) (ib : Int), max (ia : Int) (ib : Int)]])).toArray 39)).heap.size by rw [laid_size]; omega)
        have HLB := Lib.hid (lay_all [[min (ia : Int) (ib : Int), max (ia : Int) (ib : Int)]] wr (.cells (rowVals (rowsAt wr.heap.size [[min (ia : Int) (ib : Int), max (ia : Int) (ib : Int)]])).toArray 39))
        have HHA := Lib.hid ((HH.out.below (lay_all [[min (ia : Int) (ib : Int), max (ia : Int) (ib : Int)]] wr (.cells (rowVals (rowsAt wr.heap.size [[min (ia : Int) (ib : Int), max (ia : Int) (ib : Int)]])).toArray 39))).1)
        have HLH := Lib.hid (lay_heads' [[min (ia : Int) (ib : Int), max (ia : Int) (ib : Int)]] wr (by simp) (by show 1 ≤ maxLen; decide))
        by_cases hk2' : k = 2
        · subst hk2'
          have HAC : Hid (rowNums acc ++ [[min (ia : Int) (ib : Int), max (ia : Int) (ib : Int)]] = T) := by show _ = _; rw [← HTT.out, show (tripsT (!e) W 2).map listT = [listT (wk W 0, wk W 1)] from rfl, HLS.out]
          have HSN : Hid (l = SG) := by show _ = _; rw [← HSS.out, show signsT (!e) W 2 = [] from rfl, List.append_nil]
          have HEN : Hid (ev = EV) := by show _ = _; rw [← HEE.out, show evenT W 2 = false from rfl, Bool.or_false]
          clear HTT HSS HEE
          go_wp2_with (first | (go_at_call 100; refine (prPair_any _ _ _).mono ?_; rintro e' w' ⟨rfl, rfl⟩) | (at_builtin; refine wpList_append_lies _ rfl (.tmp 103) (.tmp 107) 49 rfl w1.heap.size 39 i1 (.slice none 0 0) 1 24 Try.underlying49 RI.out RZ0.out RZ1.out RZ2.out rfl (by decide) (.slice E acc.length d) acc.length (rowVals acc) rfl HHA.out ⟨wr.heap.size + 1, 0, none⟩ 1 1 (rowVals (rowsAt wr.heap.size [[min (ia : Int) (ib : Int), max (ia : Int) (ib : Int)]])) rfl (rowsAt_vals _ _) (lay_news' [[min (ia : Int) (ib : Int), max (ia : Int) (ib : Int)]] wr) (rowVals_one' _) (by decide) HMX.out HBY.out HBS.out (wr.heap.size + 1 + 1) (laid_size [[min (ia : Int) (ib : Int), max (ia : Int) (ib : Int)]] _ _) ?_; intro g3 c3 w3 hown3 hg3 hat3 hlt3))
          have hat3' : (Value.slice E acc.length d).ownBlock = some g3 ∨ g3 = ((lay wr [[min (ia : Int) (ib : Int), max (ia : Int) (ib : Int)]]).alloc (.cells (rowVals (rowsAt wr.heap.size [[min (ia : Int) (ib : Int), max (ia : Int) (ib : Int)]])).toArray 39)).heap.size := by rw [laid_size]; exact hat3
          have HJ := Lib.hid (Heads.join HH.out hwz HLB.out HLH.out (by rw [rowsAt_len]; exact hown3) hg3 hat3')
          have HBJ := Lib.hid ((below_then HB.out HLB.out hwz).grown hg3 HBS.out (fun kk e => (HHA.out.lt kk e).1))
          clear hown3 hg3 hat3 hat3' hlt3
          have HLR : Hid ((acc ++ rowsAt wr.heap.size [[min (ia : Int) (ib : Int), max (ia : Int) (ib : Int)]]).length = acc.length + 1) := by show _ = _; rw [List.length_append, rowsAt_len]; rfl
          go_wp2
          refine bodyPost_ret (v := .tuple #[.slice (some ⟨g3, 0, none⟩) (acc.length + 1) c3, .string ⟨l.toArray⟩, .bool ev]) (by simp [results, Try.results93, go_sem]) rfl ?_
          exact ⟨_, _, acc ++ rowsAt wr.heap.size [[min (ia : Int) (ib : Int), max (ia : Int) (ib : Int)]], by rw [HLR.out, HSN.out, HEN.out], by rw [show rowNums (acc ++ rowsAt wr.heap.size [[min (ia : Int) (ib : Int), max (ia : Int) (ib : Int)]]) = rowNums acc ++ rowNums (rowsAt wr.heap.size [[min (ia : Int) (ib : Int), max (ia : Int) (ib : Int)]]) by simp [rowNums], rowsAt_nums]; exact HAC.out, HJ.out.raise hbs, below_then HB1.out HBJ.out hbs⟩
        · obtain rfl : k = 3 := by omega
          obtain ⟨ic, hc1, hc2, hc3, hc4, hc5, hc6, hc7⟩ := HID.out 2 (by omega)
          have hls2 : listT (wk W 0, wk W 2) = [min (ia : Int) (ic : Int), max (ia : Int) (ic : Int)] := by
            rw [list_pair (HGW.out.two 0 2 (by omega) (by rw [HWL.out]; omega)).2, HA1.out, hc1]
          have HAC : Hid (rowNums acc ++ [[min (ia : Int) (ib : Int), max (ia : Int) (ib : Int)]] ++ [[(ia : Int)], [min (ia : Int) (ic : Int), max (ia : Int) (ic : Int)]] = T) := by
            show _ = _
            rw [← HTT.out, show (tripsT (!e) W 3).map listT = [listT (wk W 0, wk W 1), listT (wk W 0, wk W 0), listT (wk W 0, wk W 2)] from rfl, HLS.out, list_alone, hls2, HA1.out, List.append_assoc]
            rfl
          have HSN : Hid (l = SG) := by show _ = _; rw [← HSS.out, show signsT (!e) W 3 = [] from rfl, List.append_nil]
          have HEN : Hid (ev = EV) := by show _ = _; rw [← HEE.out, show evenT W 3 = false from rfl, Bool.or_false]
          have HC6 := Lib.hid hc6
          have h2n : (2 : Int) < (n : Int) := by omega
          clear HTT HSS HEE hls2 hc1 hc2 hc3 hc4 hc5 hc6 hc7 hk2'
          go_upto_region 19 with (first | (go_at_call 100; refine (prPair_any _ _ _).mono ?_; rintro e' w' ⟨rfl, rfl⟩) | (at_builtin; refine wpList_append_lies _ rfl (.tmp 103) (.tmp 107) 49 rfl w1.heap.size 39 i1 (.slice none 0 0) 1 24 Try.underlying49 RI.out RZ0.out RZ1.out RZ2.out rfl (by decide) (.slice E acc.length d) acc.length (rowVals acc) rfl HHA.out ⟨wr.heap.size + 1, 0, none⟩ 1 1 (rowVals (rowsAt wr.heap.size [[min (ia : Int) (ib : Int), max (ia : Int) (ib : Int)]])) rfl (rowsAt_vals _ _) (lay_news' [[min (ia : Int) (ib : Int), max (ia : Int) (ib : Int)]] wr) (rowVals_one' _) (by decide) HMX.out HBY.out HBS.out (wr.heap.size + 1 + 1) (laid_size [[min (ia : Int) (ib : Int), max (ia : Int) (ib : Int)]] _ _) ?_; intro g3 c3 w3 hown3 hg3 hat3 hlt3))
          have hat3' : (Value.slice E acc.length d).ownBlock = some g3 ∨ g3 = ((lay wr [[min (ia : Int) (ib : Int), max (ia : Int) (ib : Int)]]).alloc (.cells (rowVals (rowsAt wr.heap.size [[min (ia : Int) (ib : Int), max (ia : Int) (ib : Int)]])).toArray 39)).heap.size := by rw [laid_size]; exact hat3
          have HJ := Lib.hid (Heads.join HH.out hwz HLB.out HLH.out (by rw [rowsAt_len]; exact hown3) hg3 hat3')
          have HBJ := Lib.hid ((below_then HB.out HLB.out hwz).grown hg3 HBS.out (fun kk e => (HHA.out.lt kk e).1))
          clear hown3 hg3 hat3 hat3' hlt3
          have HLR : Hid ((acc ++ rowsAt wr.heap.size [[min (ia : Int) (ib : Int), max (ia : Int) (ib : Int)]]).length = acc.length + 1) := by show _ = _; rw [List.length_append, rowsAt_len]; rfl
          have hz3 : w1.heap.size ≤ w3.heap.size := HBJ.out.size
          have HMX2 := Lib.hid (show acc.length + 1 + 2 ≤ maxLen by unfold maxLen; omega)
          have HBY2 := Lib.hid (show (acc.length + 1 + 2) * 24 ≤ 140737488355328 by omega)
          have HBS2 := Lib.hid (show w1.heap.size ≤ ((lay w3 [[(ia : Int)], [min (ia : Int) (ic : Int), max (ia : Int) (ic : Int)]]).alloc (.cells (rowVals (rowsAt w3.heap.size [[(ia : Int)], [min (ia : Int) (ic : Int), max (ia : Int) (ic : Int)]])).toArray 39)).heap.size by rw [laid_size]; omega)
          have HLB2 := Lib.hid (lay_all [[(ia : Int)], [min (ia : Int) (ic : Int), max (ia : Int) (ic : Int)]] w3 (.cells (rowVals (rowsAt w3.heap.size [[(ia : Int)], [min (ia : Int) (ic : Int), max (ia : Int) (ic : Int)]])).toArray 39))
          have hha2 := (HJ.out.below (lay_all [[(ia : Int)], [min (ia : Int) (ic : Int), max (ia : Int) (ic : Int)]] w3 (.cells (rowVals (rowsAt w3.heap.size [[(ia : Int)], [min (ia : Int) (ic : Int), max (ia : Int) (ic : Int)]])).toArray 39))).1
          rw [HLR.out] at hha2
          have HHA2 := Lib.hid hha2
          have HLH2 := Lib.hid (lay_heads' [[(ia : Int)], [min (ia : Int) (ic : Int), max (ia : Int) (ic : Int)]] w3 (by simp) (by show 2 ≤ maxLen; decide))
          have hoc := (HBJ.out.cell (p := ⟨g, 2, none⟩) hgl).trans HC6.out
          have hol := (w3.cell?_alloc_lt (.cells #[.int .i64 ia] 3) ⟨g, 2, none⟩ (Nat.lt_of_lt_of_le hgl hz3)).trans hoc
          clear hha2 hoc
          go_wp2_with (first | (go_at_call 100; refine (prPair_any _ _ _).mono ?_; rintro e' w' ⟨rfl, rfl⟩) | (at_builtin; refine wpList_append_lies _ rfl (.tmp 111) (.tmp 119) 49 rfl w1.heap.size 39 i1 (.slice none 0 0) 1 24 Try.underlying49 RI.out RZ0.out RZ1.out RZ2.out rfl (by decide) (.slice (some ⟨g3, 0, none⟩) (acc.length + 1) c3) (acc.length + 1) (rowVals (acc ++ rowsAt wr.heap.size [[min (ia : Int) (ib : Int), max (ia : Int) (ib : Int)]])) rfl HHA2.out ⟨w3.heap.size + 2, 0, none⟩ 2 2 (rowVals (rowsAt w3.heap.size [[(ia : Int)], [min (ia : Int) (ic : Int), max (ia : Int) (ic : Int)]])) rfl (rowsAt_vals _ _) (lay_news' [[(ia : Int)], [min (ia : Int) (ic : Int), max (ia : Int) (ic : Int)]] w3) (rowVals_one' _) (by decide) HMX2.out HBY2.out HBS2.out (w3.heap.size + 2 + 1) (laid_size [[(ia : Int)], [min (ia : Int) (ic : Int), max (ia : Int) (ic : Int)]] _ _) ?_; intro g4 c4 w4 hown4 hg4 hat4 hlt4))
          have hat4' : (Value.slice (some ⟨g3, 0, none⟩) (acc ++ rowsAt wr.heap.size [[min (ia : Int) (ib : Int), max (ia : Int) (ib : Int)]]).length c3).ownBlock = some g4 ∨ g4 = ((lay w3 [[(ia : Int)], [min (ia : Int) (ic : Int), max (ia : Int) (ic : Int)]]).alloc (.cells (rowVals (rowsAt w3.heap.size [[(ia : Int)], [min (ia : Int) (ic : Int), max (ia : Int) (ic : Int)]])).toArray 39)).heap.size := by rw [laid_size]; exact hat4
          have HJ4 := Lib.hid (Heads.join HJ.out hz3 HLB2.out HLH2.out (by rw [rowsAt_len, HLR.out]; exact hown4) hg4 hat4')
          have HBJ4 := Lib.hid ((below_then HBJ.out HLB2.out hz3).grown hg4 HBS2.out (fun kk e => (HHA2.out.lt kk e).1))
          have HLR4 : Hid ((acc ++ rowsAt wr.heap.size [[min (ia : Int) (ib : Int), max (ia : Int) (ib : Int)]] ++ rowsAt w3.heap.size [[(ia : Int)], [min (ia : Int) (ic : Int), max (ia : Int) (ic : Int)]]).length = acc.length + 1 + 2) := by show _ = _; rw [List.length_append, HLR.out, rowsAt_len]; rfl
          clear hown4 hg4 hat4 hat4' hlt4
          go_wp2
          refine bodyPost_ret (v := .tuple #[.slice (some ⟨g4, 0, none⟩) (acc.length + 1 + 2) c4, .string ⟨l.toArray⟩, .bool ev]) (by simp [results, Try.results93, go_sem]) rfl ?_
          exact ⟨_, _, acc ++ rowsAt wr.heap.size [[min (ia : Int) (ib : Int), max (ia : Int) (ib : Int)]] ++ rowsAt w3.heap.size [[(ia : Int)], [min (ia : Int) (ic : Int), max (ia : Int) (ic : Int)]], by rw [HLR4.out, HSN.out, HEN.out], by rw [show rowNums (acc ++ rowsAt wr.heap.size [[min (ia : Int) (ib : Int), max (ia : Int) (ib : Int)]] ++ rowsAt w3.heap.size [[(ia : Int)], [min (ia : Int) (ic : Int), max (ia : Int) (ic : Int)]]) = rowNums acc ++ rowNums (rowsAt wr.heap.size [[min (ia : Int) (ib : Int), max (ia : Int) (ib : Int)]]) ++ rowNums (rowsAt w3.heap.size [[(ia : Int)], [min (ia : Int) (ic : Int), max (ia : Int) (ic : Int)]]) by simp [rowNums], rowsAt_nums, rowsAt_nums]; exact HAC.out, HJ4.out.raise hbs, below_then HB1.out HBJ4.out hbs⟩
end Go.Proofs.Ytcoagbcleccmmaa

namespace Go.Proofs.Ytcoagbcleccmmaa
open Go.RowKit

/-- The times of trips together. -/
def sumSlow (xs : List Int) (ls : List (List Int)) : Int := (ls.map (slowOf xs)).sum
theorem sumSlow_next {xs : List Int} {ls : List (List Int)} {k : Nat} (hk : k < ls.length) : sumSlow xs (ls.take (k + 1)) = sumSlow xs (ls.take k) + slowOf xs ls[k] := by
  rw [sumSlow, sumSlow, List.take_succ_eq_append_getElem hk, List.map_append, List.sum_append]
  simp
def AllTrips (n : Nat) (ls : List (List Int)) : Prop := ∀ k (h : k < ls.length), StepsTo ls[k] (n - 1) ls[k].length
theorem slowOf_bdG {xs : List Int} (h : ∀ y ∈ xs, 1 ≤ y ∧ y ≤ 1000) (l : List Int) : 0 ≤ slowOf xs l ∧ slowOf xs l ≤ 1000 := by
  constructor
  · exact ((slowOf_le xs l _).1 (Int.le_refl _)).1
  · rw [slowOf_le]
    refine ⟨by omega, fun x _ => ?_⟩
    by_cases hx : x.toNat < xs.length
    · have h2 := h _ (List.getElem_mem hx)
      simp [hx]
      omega
    · simp [hx]
theorem sumSlow_bdG {xs : List Int} (h : ∀ y ∈ xs, 1 ≤ y ∧ y ≤ 1000) (ls : List (List Int)) : 0 ≤ sumSlow xs ls ∧ sumSlow xs ls ≤ 1000 * ls.length := by
  induction ls with
  | nil => simp [sumSlow]
  | cons l ls ih =>
    have := slowOf_bdG h l
    simp only [sumSlow, List.map_cons, List.sum_cons, List.length_cons] at ih ⊢
    omega

set_option maxHeartbeats 800000 in
theorem paSumG_any (A D : Option Addr) (n c q z : Nat) (xs : List Int) (rs : List RowV) (s : Int) (w : World) (hA : Holds w A (nums xs)) (hD : Grid w D rs) (hx : xs.length = n) (hz : rs.length = q) (hn : n ≤ 9223372036854775807) (hq : q ≤ 40) (hp : ∀ y ∈ xs, 1 ≤ y ∧ y ≤ 1000) (ht : AllTrips n (rowNums rs)) :
    Calls Try.prog 101 #[.agg #[.slice A n c, .int .i64 s], .slice D q z] w fun e w' => e = .returned (.int .i64 (sumSlow xs (rowNums rs))) ∧ Below w.heap.size w w' := by
  have HX := Lib.hid hx
  have HZ := Lib.hid hz
  have HP := Lib.hid hp
  have HT := Lib.hid ht
  have HLS := Lib.hid (rowNums_len rs)
  have h0 := Whole.fresh w 110 #[.slice A n c, .int .i64 s]
  have hbw := below1 w (.cells #[.slice A n c, .int .i64 s] 110)
  have HBW := Lib.hid hbw
  have H0 := Lib.hid h0
  clear hx hz hp ht hbw h0
  go_enter Try.func101, Try.ntmps101
  go_wp2
  go_loopw [5, 10] (fun v i wr => ∃ k : Nat, k ≤ q ∧ i = .int .i64 k ∧ v = .int .i64 (sumSlow xs ((rowNums rs).take k)) ∧ Whole wr w.heap.size 110 #[.slice A n c, .int .i64 s] ∧ Below w.heap.size w wr) (fun _ i _ => q - (intOf i).toNat)
  case atStart => exact ⟨0, Nat.zero_le _, rfl, rfl, H0.out, HBW.out⟩
  case round =>
    obtain ⟨k, hk, rfl, rfl, h0, hb⟩ := hrel
    clear H0 HBW
    obtain ⟨c0, c1, -, -⟩ := h0.two
    by_cases hlt : k < q
    · have hkr : k < rs.length := by have := HZ.out; omega
      have hkl : k < (rowNums rs).length := by have := HLS.out; omega
      obtain ⟨b1, o1, rfl, hbl1, hc, hok⟩ := (hD.below hb).look hkr
      have hst := HT.out k hkl
      rw [rowNums_get hkr] at hst
      have hA1 := hA.below hb
      have hs0 := sumSlow_bdG HP.out ((rowNums rs).take k)
      have hs1 := slowOf_bdG HP.out rs[k].xs
      have hlen : ((rowNums rs).take k).length ≤ 40 := by have := HLS.out; have := HZ.out; simp; omega
      have hs2 := hs0.1
      have hs3 : sumSlow xs ((rowNums rs).take k) ≤ 40000 := by omega
      have hs4 := hs1.1
      have hs5 := hs1.2
      have HNX := Lib.hid (show sumSlow xs ((rowNums rs).take (k + 1)) = sumSlow xs ((rowNums rs).take k) + slowOf xs rs[k].xs by rw [sumSlow_next hkl, rowNums_get hkr])
      have HST := Lib.hid hst
      clear hs0 hs1 hlen hst
      go_wp2_with fail
      refine (paTime_any A _ n c _ _ xs _ s _ hA1 HX.out hok.1 hok.2.1 hok.2.2 hn HST.out).mono ?_
      rintro e w1 ⟨rfl, hb1⟩
      have h1 := h0.below hb1
      have hbb := below_then hb hb1 hb.size
      clear hb hb1 h0 hA1 hok c0 c1
      go_wp2
      go_roundw
      case rel => exact ⟨k + 1, by omega, by go_num, by rw [HNX.out], h1, hbb⟩
      case measure => simp [intOf]; omega
    · have hkn : k = q := by omega
      subst hkn
      have HTK := Lib.hid (List.take_of_length_le (l := rowNums rs) (i := k) (by have := HLS.out; have := HZ.out; omega))
      clear c0 c1
      go_wp2
      go_ret
      exact ⟨ret_of (by rw [HTK.out]; rfl), hb⟩


theorem slow_list {xs : List Int} {t : Pt} (h : OkT xs t) (hm : ∀ y ∈ xs, 1 ≤ y ∧ y ≤ 1000) : slowOf xs (listT t) = t.2.2 := by
  obtain ⟨⟨a1, a2, a3⟩, ⟨b1, b2, b3⟩, h3⟩ := h
  have g : ∀ i : Int, 0 ≤ i → i < xs.length → 1 ≤ tm xs i := fun i h1 h2 => by
    have hx : i.toNat < xs.length := by omega
    have := hm _ (List.getElem_mem hx)
    simp only [tm, List.getD_eq_getElem?_getD, List.getElem?_eq_getElem hx, Option.getD_some]
    omega
  have ga := g _ a2 a3
  have gb := g _ b2 b3
  have hf : ∀ l : List Int, slowOf xs l = (l.map (tm xs)).foldl max 0 := fun l => rfl
  rw [hf]
  rcases h3 with h3 | ⟨h3, h4⟩
  · have : listT t = [t.2.1] := by
      obtain ⟨t1, t2⟩ := t
      obtain rfl : t1 = t2 := h3
      simp [listT, isAlone]
    rw [this]
    show max 0 (tm xs t.2.1) = _
    omega
  · have hne : ¬ t.1 = t.2 := fun e => h3 (by rw [e])
    have : listT t = [min t.1.1 t.2.1, max t.1.1 t.2.1] := by simp [listT, isAlone, hne]
    rw [this]
    show max (max 0 (tm xs (min t.1.1 t.2.1))) (tm xs (max t.1.1 t.2.1)) = _
    rcases Int.le_total t.1.1 t.2.1 with h | h
    · rw [Int.min_eq_left h, Int.max_eq_right h]
      omega
    · rw [Int.min_eq_right h, Int.max_eq_left h]
      omega
theorem sum_trips {xs : List Int} {ts : List Pt} (h : ∀ t ∈ ts, OkT xs t) (hm : ∀ y ∈ xs, 1 ≤ y ∧ y ≤ 1000) : sumSlow xs (ts.map listT) = timeT ts := by
  rw [sumSlow, timeT, List.map_map]
  congr 1
  exact List.map_congr_left fun t ht => slow_list (h t ht) hm
theorem all_trips {xs : List Int} {n : Nat} {ts : List Pt} (hx : xs.length = n) (h : ∀ t ∈ ts, OkT xs t) : AllTrips n (ts.map listT) := by
  intro k hk
  rw [List.getElem_map]
  have := (h _ (List.getElem_mem (by simpa using hk : k < ts.length))).steps
  rw [hx] at this
  exact this

set_option maxHeartbeats 1600000 in
theorem prSum_any (A D : Option Addr) (n c q z : Nat) (xs : List Int) (rs : List RowV) (w : World) (hA : Holds w A (nums xs)) (hD : Grid w D rs) (hx : xs.length = n) (hz : rs.length = q) (hn : n ≤ 9223372036854775807) (hq : q ≤ 40) (hp : ∀ y ∈ xs, 1 ≤ y ∧ y ≤ 1000) (ht : AllTrips n (rowNums rs)) :
    Calls Try.prog 94 #[.slice A n c, .slice D q z] w fun e w' => e = .returned (.int .i64 (sumSlow xs (rowNums rs))) ∧ Below w.heap.size w w' := by
  have HX := Lib.hid hx
  have HZ := Lib.hid hz
  have HP := Lib.hid hp
  have HT := Lib.hid ht
  clear hx hz hp ht
  go_enter Try.func94, Try.ntmps94
  go_wp2_with fail
  refine (paSumG_any A D n c q z xs rs 0 _ hA hD HX.out HZ.out hn hq HP.out HT.out).mono ?_
  rintro e w1 ⟨rfl, hb⟩
  go_wp2
  go_ret
  exact ⟨rfl, hb⟩
end Go.Proofs.Ytcoagbcleccmmaa
