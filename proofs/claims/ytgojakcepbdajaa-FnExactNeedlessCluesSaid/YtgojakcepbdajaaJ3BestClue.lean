/-
  What is proved: the contract of the program's trips of a squad. Conditions: at most twelve people.
  What is proved: plain facts on lists of lists that a call hands back. Conditions: none.
  What is proved: plain facts on the rising lists that begin with some people and go on with others, and on lists of lists put one behind the other. Conditions: none.
  What is proved: the contract of the program's listsFrom: the rising lists that begin with some people and go on with others. Conditions: the lists are read as they lie; at most eight others, and at most eight to begin with.
  What is proved: contracts of the program's pairTrips, timeOfTrips, pairTrip.list and listsOfTrips. Conditions: the arguments are read as they lie; at most 24 trips.
  What is proved: plain facts on lists that are laid one behind the other, and on the list of them. Conditions: none.
  What is proved: plain facts on the signs of rounds and on lists of trips, and the contract of the model's prPair. Conditions: none.
  What is proved: the contract of the model's prTrips: the trips of two at once, the signs of their rounds, and whether one was even. Conditions: one to twelve times, each from 1 to 1000, read as they lie.
  What is proved: contracts of the model's sums of the times of trips (paSum, prSum, prTime), and that they are the program's. Conditions: the trips are some of these people's; at most forty.
  What is proved: contracts of PairTime, of the model and of the program. Conditions: the times are read as they lie.
  What is proved: the contract of the program's EscortTime. Conditions: the times are read as they lie.
  What is proved: contracts of the model's values that clues tell and of its test whether times fit a clue. Conditions: hidden times, read as they lie; a clue of them.
-/
import Derived.Deep.AppendLies
import Derived.Laws.Concat
import Derived.Deep.DeepCutAuto
import Derived.Test.YtgojakcepbdajaaJ2BestClue
set_option linter.unusedSimpArgs false
set_option linter.unusedVariables false
namespace Go.Proofs.Ytgojakcepbdajaa
open Go.RowKit

/-- A trip's cells. -/
def ptCells (t : Pt) : Array Value := #[.int .i64 t.1.1, .int .i64 t.1.2, .int .i64 t.2.1, .int .i64 t.2.2]
def ptsCells (ts : List Pt) : List Value := ts.flatMap fun t => (ptCells t).toList
theorem pts_app (a b : List Pt) : ptsCells (a ++ b) = ptsCells a ++ ptsCells b := List.flatMap_append
theorem pts_len (ts : List Pt) : (ptsCells ts).length = ts.length * 4 := by
  induction ts with
  | nil => rfl
  | cons t ts ih =>
    have h : ptsCells (t :: ts) = (ptCells t).toList ++ ptsCells ts := rfl
    rw [h, List.length_append, ih, List.length_cons]
    simp [ptCells]
    omega
theorem pts_one (ts : List Pt) : ∀ u ∈ ptsCells ts, u.oneCell' = true := by
  intro u hu
  simp only [ptsCells, List.mem_flatMap, ptCells, List.mem_cons, List.not_mem_nil, or_false] at hu
  obtain ⟨t, -, rfl | rfl | rfl | rfl⟩ := hu <;> rfl
theorem info_pt : (Try.prog.info? 119).map (fun i => (i.zero, i.size, i.bytes)) = some (some (.agg #[.int .i64 0, .int .i64 0, .int .i64 0, .int .i64 0]), 4, 32) := by kernel_rfl

set_option maxHeartbeats 1600000 in
theorem alone_any (x : Wk) (w : World) : Calls Try.prog 109 #[.agg #[.int .i64 x.1, .int .i64 x.2]] w fun e w' => e = .returned (.agg #[.int .i64 x.1, .int .i64 x.2, .int .i64 x.1, .int .i64 x.2]) ∧ Below w.heap.size w w' := by
  have hb := below2 w (.cells #[.int .i64 x.1, .int .i64 x.2] 111) (.cells #[.int .i64 0, .int .i64 0, .int .i64 0, .int .i64 0] 119)
  have HB := Lib.hid hb
  clear hb
  go_enter Try.func109, Try.ntmps109
  go_wp2
  exact bodyPost_ret (v := .agg #[.int .i64 x.1, .int .i64 x.2, .int .i64 x.1, .int .i64 x.2]) (by simp [results, Try.results109, go_sem]) rfl ⟨rfl, below2 w _ _⟩

theorem wpList_load_row_g {P : Program} {ops : Array Oper} {rest : List Oper} {o : Oper} {a : Act} {w : World} {Q : Exit → Act → World → Prop} (hw : Region.wanted o (yielded ops a.tmps) = true) (ty : TypeId) (x : Operand) (ho : o.op = .load ty x)
    (g : Nat) (hx : a.eval x = .pointer (some ⟨g, 0, none⟩)) (t : TypeId) (cs : Array Value) (fr : Nat × Nat) (d : TypeDesc) (hg : w.heap[g]? = some (.cells cs t fr))
    (hu : P.underlying ty = some d) (hd : (match d with | .struct _ | .array _ _ => true | _ => false) = true) (hi : (P.info? ty).map (·.size) = some cs.size)
    (h : wpList P ops Q rest (a.put o.dst (.agg cs)) w) : wpList P ops Q (o :: rest) a w :=
  BigFrame.wpList_want hw fun _ hK => wp_load_row ty x ho g hx t cs fr d hg hu hd hi (hK _ _ h)

theorem pts_news (w : World) (ts : List Pt) : ∀ j u, (ptsCells ts)[j]? = some u → (w.alloc (.cells (ptsCells ts).toArray 119)).cell? ((⟨w.heap.size, 0, none⟩ : Addr).add j) = some u := by
  have h := cells_fresh w 119 (ptsCells ts).toArray
  simpa using h
/-- What trips hands back. -/
def TripsPost (ts : List Pt) (w : World) (e : Ending) (w' : World) : Prop :=
  ∃ (E : Option Addr) (d : Nat), e = .returned (.slice E ts.length d) ∧ w'.ownsRow w.heap.size 119 4 (.slice E ts.length d) ts.length (ptsCells ts) ∧ Below w.heap.size w w'
/-- The trips under way while k are not over. -/
def TripsTo (f : Bool) (W : List Wk) (k lo : Nat) (wr : World) (v : Value) (acc : List Pt) : Prop :=
  ∃ (E : Option Addr) (d : Nat), v = .slice E acc.length d ∧ wr.ownsRow lo 119 4 (.slice E acc.length d) acc.length (ptsCells acc) ∧ acc ++ tripsT f W k = tripsT f W W.length
/-- Times that no sum of three makes too great. -/
def Mild (W : List Wk) : Prop := ∀ k, 0 ≤ (wk W k).2 ∧ (wk W k).2 ≤ 1000

/-- Four boxes, each with a person. -/
structure Four (wx : World) (p q r t : Nat) (a b y z : Wk) : Prop where
  pa : Whole wx p 111 #[.int .i64 a.1, .int .i64 a.2]
  qb : Whole wx q 111 #[.int .i64 b.1, .int .i64 b.2]
  ry : Whole wx r 111 #[.int .i64 y.1, .int .i64 y.2]
  tz : Whole wx t 111 #[.int .i64 z.1, .int .i64 z.2]
theorem Four.below {wx w' : World} {p q r t : Nat} {a b y z : Wk} (h : Four wx p q r t a b y z) (hb : Below wx.heap.size wx w') : Four w' p q r t a b y z := ⟨h.pa.below hb, h.qb.below hb, h.ry.below hb, h.tz.below hb⟩
theorem Four.keep {wx w' : World} {p q r t B : Nat} {a b y z : Wk} (h : Four wx p q r t a b y z) (hb : Below B wx w') (hp : p < B) (hq : q < B) (hr : r < B) (ht : t < B) : Four w' p q r t a b y z := ⟨h.pa.below' hb hp, h.qb.below' hb hq, h.ry.below' hb hr, h.tz.below' hb ht⟩
theorem Four.cells {wx : World} {p q r t : Nat} {a b y z : Wk} (h : Four wx p q r t a b y z) :
    (wx.cell? ⟨p, 0, none⟩ = some (.int .i64 a.1) ∧ wx.cell? ⟨p, 1, none⟩ = some (.int .i64 a.2)) ∧ (wx.cell? ⟨q, 0, none⟩ = some (.int .i64 b.1) ∧ wx.cell? ⟨q, 1, none⟩ = some (.int .i64 b.2)) ∧ (wx.cell? ⟨r, 0, none⟩ = some (.int .i64 y.1) ∧ wx.cell? ⟨r, 1, none⟩ = some (.int .i64 y.2)) ∧ (wx.cell? ⟨t, 0, none⟩ = some (.int .i64 z.1) ∧ wx.cell? ⟨t, 1, none⟩ = some (.int .i64 z.2)) :=
  ⟨⟨h.pa.two.1, h.pa.two.2.1⟩, ⟨h.qb.two.1, h.qb.two.2.1⟩, ⟨h.ry.two.1, h.ry.two.2.1⟩, h.tz.two.1, h.tz.two.2.1⟩
theorem four_grown {w w' : World} {p q r t : Nat} {a b y z : Wk} {row : Option Nat} (h : Four w p q r t a b y z) (hg : w.grownBy w' row) (hd : ∀ kk, row = some kk → kk ≠ p ∧ kk ≠ q ∧ kk ≠ r ∧ kk ≠ t) : Four w' p q r t a b y z :=
  ⟨(hg.block p h.pa.lt (fun e => (hd p e.symm).1 rfl)).trans h.pa, (hg.block q h.qb.lt (fun e => (hd q e.symm).2.1 rfl)).trans h.qb, (hg.block r h.ry.lt (fun e => (hd r e.symm).2.2.1 rfl)).trans h.ry, (hg.block t h.tz.lt (fun e => (hd t e.symm).2.2.2 rfl)).trans h.tz⟩
theorem tripsT_step (f : Bool) (W : List Wk) {k y : Nat} (h4 : 4 ≤ k) (hy : y + 2 = k) : tripsT f W k = round f W y ++ tripsT f W y := by
  obtain ⟨m, rfl⟩ : ∃ m, k = m + 4 := ⟨k - 4, by omega⟩
  obtain rfl : y = m + 2 := by omega
  rw [tripsT]

set_option maxHeartbeats 12800000 in
set_option maxRecDepth 100000 in
theorem trips_any (W : List Wk) (f : Bool) (w : World) (h1 : 1 ≤ W.length) (h12 : W.length ≤ 12) (hmild : Mild W) :
    Calls Try.prog 99 #[.agg (squadCells W W.length), .bool f] w (TripsPost (tripsT f W W.length) w) := by
  obtain ⟨i1, ri, rz0, rz1, rz2⟩ := info_parts info_pt
  have RI := Lib.hid ri
  have RZ0 := Lib.hid rz0
  have RZ1 := Lib.hid rz1
  have RZ2 := Lib.hid rz2
  have HTL := Lib.hid (trips_len f W W.length)
  have h0 := Whole.fresh w 114 (squadCells W W.length)
  have hb0 := below1 w (.cells (squadCells W W.length) 114)
  have a0 := (h0.cell 0).trans (squad_who W W.length (k := 0) (by omega))
  have a1 := (h0.cell 1).trans (squad_time W W.length (k := 0) (by omega))
  have b0 := (h0.cell 2).trans (squad_who W W.length (k := 1) (by omega))
  have b1 := (h0.cell 3).trans (squad_time W W.length (k := 1) (by omega))
  obtain ⟨W0, hW0⟩ : ∃ W0, W0 = w.alloc (.cells (squadCells W W.length) 114) := ⟨_, rfl⟩
  rw [← hW0] at h0 hb0 a0 a1 b0 b1
  have hl0 := h0.lt
  have HW0 := Lib.hid hW0
  have H0 := Lib.hid h0
  have HB0 := Lib.hid hb0
  have HMILD := Lib.hid hmild
  obtain ⟨a, hwa⟩ : ∃ a, a = wk W 0 := ⟨_, rfl⟩
  obtain ⟨b, hwb⟩ : ∃ b, b = wk W 1 := ⟨_, rfl⟩
  rw [← hwa] at a0 a1
  rw [← hwb] at b0 b1
  have HWA := Lib.hid hwa
  have HWB := Lib.hid hwb
  clear hW0 h0 hb0 hwa hwb hmild ri rz0 rz1 rz2
  go_enter Try.func99, Try.ntmps99
  go_wp2_with fail
  go_step3
  go_wp2_with fail
  go_cut [5, 6] from 11 to 16 (fun s5 s6 wx => TwoBoxes W0.heap.size a b W0 s5 s6 wx)
  case first =>
    rw [← HW0.out]
    have hn1 : ¬ W0.heap.size = w.heap.size := by omega
    have hn2 : ¬ W0.heap.size + 1 = w.heap.size := by omega
    have hn3 : ¬ w.heap.size = W0.heap.size := by omega
    have hn4 : ¬ w.heap.size = W0.heap.size + 1 := by omega
    go_region_held3 (fun w' => (w'.cell? ⟨w.heap.size, 0, none⟩ = some (.int .i64 a.1) ∧ w'.cell? ⟨w.heap.size, 1, none⟩ = some (.int .i64 a.2)) ∧ (w'.cell? ⟨w.heap.size, 2, none⟩ = some (.int .i64 b.1) ∧ w'.cell? ⟨w.heap.size, 3, none⟩ = some (.int .i64 b.2))) (go_keep) (fail)
    all_goals (go_wp2_with fail; go_meet)
    all_goals first | exact two_ab a b W0 | exact two_ba a b W0
  obtain ⟨W1, rfl⟩ : ∃ W1 : World, W1 = wc := ⟨_, rfl⟩
  obtain ⟨p, q, rfl, rfl, hp, hq, hpq, hwp, hwq, hb⟩ := hcut
  have HQ1 := Lib.hid (H0.out.below hb)
  have HP1 := Lib.hid hwp
  have HR1 := Lib.hid hwq
  have HB1 := Lib.hid (below_then HB0.out hb HB0.out.size)
  have hpl := hwp.lt
  have hql := hwq.lt
  have hgl : w.heap.size < W1.heap.size := by have := hb.size; omega
  have h24 := (HQ1.out.cell 24).trans (squad_n _ _)
  clear hwp hwq hb a0 a1 b0 b1
  go_wp2_with fail
  go_step3
  go_wp2_with fail
  clear h24
  go_loopw [7, 8] (fun l v wr => ∃ (k : Nat) (acc : List Pt), 1 ≤ k ∧ k ≤ W.length ∧ l = .int .i64 k ∧ TripsTo f W k W1.heap.size wr v acc ∧ Below W1.heap.size W1 wr) (fun l _ _ => (intOf l).toNat)
  case atStart => exact ⟨W.length, [], h1, Nat.le_refl _, rfl, ⟨none, 0, rfl, World.ownsRow_nil _ _ _ _, rfl⟩, Below.refl _ _⟩
  case round =>
    obtain ⟨k, acc, hk1, hkn, rfl, ⟨E, d, rfl, hown, hacc⟩, hb⟩ := hrel
    have hwz : W1.heap.size ≤ wr.heap.size := hb.size
    have hpw := HP1.out.below hb
    have hqw := HR1.out.below hb
    have hsw := HQ1.out.below hb
    have hal : acc.length ≤ 24 := by
      have h := congrArg List.length hacc
      have := HTL.out
      simp at h
      omega
    obtain ⟨p0, p1, -, -⟩ := hpw.two
    obtain ⟨q0, q1, -, -⟩ := hqw.two
    have HSW := Lib.hid hsw
    have HPW := Lib.hid hpw
    have HQW := Lib.hid hqw
    have HO := Lib.hid hown
    have HB := Lib.hid hb
    by_cases e1 : k = 1
    · subst e1
      have HACC : Hid (acc ++ [(a, a)] = tripsT f W W.length) := by show _ = _; rw [← hacc, HWA.out]; rfl
      clear hpw hqw hsw hown hacc hb
      go_wp2_with fail
      refine (alone_any a _).mono ?_
      rintro e w2 ⟨rfl, hb2⟩
      have hs2 : wr.heap.size ≤ w2.heap.size := hb2.size
      have HO2 := Lib.hid (own_below HO.out hb2)
      have HB2 := Lib.hid (below_then HB.out hb2 hwz)
      clear hb2
      have HOW := Lib.hid (HO2.out.alloc (.cells (ptsCells [(a, a)]).toArray 119))
      have HBB := Lib.hid (HB2.out.alloc (Nat.le_trans hwz hs2) (.cells (ptsCells [(a, a)]).toArray 119))
      have hnew : ∀ j u, (ptsCells [(a, a)])[j]? = some u → (w2.alloc (.cells (ptsCells [(a, a)]).toArray 119)).cell? ((⟨w2.heap.size, 0, none⟩ : Addr).add j) = some u := by
        have h := cells_fresh w2 119 (ptsCells [(a, a)]).toArray
        simpa using h
      have HNEW := Lib.hid hnew
      clear hnew
      have HLN := Lib.hid (pts_len [(a, a)])
      have HMX := Lib.hid (show acc.length + 1 ≤ maxLen by unfold maxLen; omega)
      have HBY := Lib.hid (show (acc.length + 1) * 32 ≤ 140737488355328 by omega)
      have HBS := Lib.hid (show W1.heap.size ≤ (w2.alloc (.cells (ptsCells [(a, a)]).toArray 119)).heap.size by simp; omega)
      go_wp2_with (at_builtin; refine wpList_append_lies _ rfl (.tmp 22) (.tmp 25) 90 rfl W1.heap.size 119 i1 (.agg #[.int .i64 0, .int .i64 0, .int .i64 0, .int .i64 0]) 4 32 Try.underlying90 RI.out RZ0.out RZ1.out RZ2.out rfl (by decide) (.slice E acc.length d) acc.length (ptsCells acc) rfl HOW.out ⟨w2.heap.size, 0, none⟩ 1 1 (ptsCells [(a, a)]) rfl HLN.out HNEW.out (pts_one _) (by decide) HMX.out HBY.out HBS.out (w2.heap.size + 1) (by simp) ?_; intro g3 c3 w3 hown3 hg3 hat3 hlt3)
      have hbf : Below W1.heap.size W1 w3 := HBB.out.grown hg3 HBS.out (fun kk e => (HOW.out.lt kk e).1)
      have HBF := Lib.hid (HB1.out.trans (hbf.mono (Nat.le_trans (Nat.le_of_lt hgl) (Nat.le_refl _))))
      have hof : w3.ownsRow w.heap.size 119 4 (.slice (some ⟨g3, 0, none⟩) (acc.length + 1) c3) (acc.length + 1) (ptsCells (tripsT f W W.length)) := by
        rw [← HACC.out, pts_app]
        exact own_lower hown3 (Nat.le_of_lt hgl)
      have HOF := Lib.hid hof
      have HLF : Hid ((tripsT f W W.length).length = acc.length + 1) := by show _ = _; rw [← HACC.out]; simp
      clear hbf hof hown3 hg3 hat3 hlt3
      go_wp2
      rw [Exit.noGoto_ret]
      go_ret
      exact ⟨some ⟨g3, 0, none⟩, c3, by rw [HLF.out]; rfl, by rw [HLF.out]; exact HOF.out, HBF.out⟩
    by_cases e2 : k = 2
    · subst e2
      have HACC : Hid (acc ++ [(a, b)] = tripsT f W W.length) := by show _ = _; rw [← hacc, HWA.out, HWB.out]; rfl
      clear hpw hqw hsw hown hacc hb
      have HOW := Lib.hid (HO.out.alloc (.cells (ptsCells [(a, b)]).toArray 119))
      have HBB := Lib.hid (HB.out.alloc hwz (.cells (ptsCells [(a, b)]).toArray 119))
      have hnew : ∀ j u, (ptsCells [(a, b)])[j]? = some u → (wr.alloc (.cells (ptsCells [(a, b)]).toArray 119)).cell? ((⟨wr.heap.size, 0, none⟩ : Addr).add j) = some u := by
        have h := cells_fresh wr 119 (ptsCells [(a, b)]).toArray
        simpa using h
      have HNEW := Lib.hid hnew
      clear hnew
      have HLN := Lib.hid (pts_len [(a, b)])
      have HMX := Lib.hid (show acc.length + 1 ≤ maxLen by unfold maxLen; omega)
      have HBY := Lib.hid (show (acc.length + 1) * 32 ≤ 140737488355328 by omega)
      have HBS := Lib.hid (show W1.heap.size ≤ (wr.alloc (.cells (ptsCells [(a, b)]).toArray 119)).heap.size by simp; omega)
      go_wp2_with (at_builtin; refine wpList_append_lies _ rfl (.tmp 29) (.tmp 33) 90 rfl W1.heap.size 119 i1 (.agg #[.int .i64 0, .int .i64 0, .int .i64 0, .int .i64 0]) 4 32 Try.underlying90 RI.out RZ0.out RZ1.out RZ2.out rfl (by decide) (.slice E acc.length d) acc.length (ptsCells acc) rfl HOW.out ⟨wr.heap.size, 0, none⟩ 1 1 (ptsCells [(a, b)]) rfl HLN.out HNEW.out (pts_one _) (by decide) HMX.out HBY.out HBS.out (wr.heap.size + 1) (by simp) ?_; intro g3 c3 w3 hown3 hg3 hat3 hlt3)
      have hbf : Below W1.heap.size W1 w3 := HBB.out.grown hg3 HBS.out (fun kk e => (HOW.out.lt kk e).1)
      have HBF := Lib.hid (HB1.out.trans (hbf.mono (Nat.le_trans (Nat.le_of_lt hgl) (Nat.le_refl _))))
      have hof : w3.ownsRow w.heap.size 119 4 (.slice (some ⟨g3, 0, none⟩) (acc.length + 1) c3) (acc.length + 1) (ptsCells (tripsT f W W.length)) := by
        rw [← HACC.out, pts_app]
        exact own_lower hown3 (Nat.le_of_lt hgl)
      have HOF := Lib.hid hof
      have HLF : Hid ((tripsT f W W.length).length = acc.length + 1) := by show _ = _; rw [← HACC.out]; simp
      clear hbf hof hown3 hg3 hat3 hlt3
      go_wp2
      rw [Exit.noGoto_ret]
      go_ret
      exact ⟨some ⟨g3, 0, none⟩, c3, by rw [HLF.out]; rfl, by rw [HLF.out]; exact HOF.out, HBF.out⟩
    by_cases e3 : k = 3
    · subst e3
      obtain ⟨c, hc⟩ : ∃ c, c = wk W 2 := ⟨_, rfl⟩
      have HWC := Lib.hid hc
      have HACC : Hid (acc ++ [(a, b), (a, a), (a, c)] = tripsT f W W.length) := by show _ = _; rw [← hacc, HWA.out, HWB.out, hc]; rfl
      have c4 := (hsw.cell 4).trans (squad_who W W.length (k := 2) (by omega))
      have c5 := (hsw.cell 5).trans (squad_time W W.length (k := 2) (by omega))
      rw [← hc] at c4 c5
      clear hpw hqw hsw hown hacc hb hc
      go_wp2_with fail
      go_region_held3 (fun w' => (w'.cell? ⟨p, 0, none⟩ = some (.int .i64 a.1) ∧ w'.cell? ⟨p, 1, none⟩ = some (.int .i64 a.2)) ∧ (w'.cell? ⟨q, 0, none⟩ = some (.int .i64 b.1) ∧ w'.cell? ⟨q, 1, none⟩ = some (.int .i64 b.2)) ∧ (w'.cell? ⟨w.heap.size, 4, none⟩ = some (.int .i64 c.1) ∧ w'.cell? ⟨w.heap.size, 5, none⟩ = some (.int .i64 c.2))) (go_keep)
        (first | (go_at_call 109; refine (alone_any a _).mono ?_; rintro e w2 ⟨rfl, hb2⟩; have hs2 : wr.heap.size ≤ w2.heap.size := hb2.size; have hp2 := HPW.out.drew.below hb2; have hq2 := HQW.out.drew.below hb2; have hs22 := HSW.out.drew.below hb2; obtain ⟨r0, r1, -, -⟩ := hp2.two; obtain ⟨t0, t1, -, -⟩ := hq2.two; have d4 := (hs22.cell 4).trans (squad_who W W.length (k := 2) (by omega)); have d5 := (hs22.cell 5).trans (squad_time W W.length (k := 2) (by omega)); rw [← HWC.out] at d4 d5; have HO2 := Lib.hid (own_below (own_below HO.out (Below.refl wr.heap.size wr).drew) hb2); have HB2 := Lib.hid (below_then HB.out.drew hb2 hwz); have HOW := Lib.hid (HO2.out.alloc (.cells (ptsCells [(a, b), (a, a), (a, c)]).toArray 119)); have HBB := Lib.hid (HB2.out.alloc (Nat.le_trans hwz hs2) (.cells (ptsCells [(a, b), (a, a), (a, c)]).toArray 119)); have HNEW := Lib.hid (pts_news w2 [(a, b), (a, a), (a, c)]); have HLN := Lib.hid (pts_len [(a, b), (a, a), (a, c)]); have HMX := Lib.hid (show acc.length + 3 ≤ maxLen from (by unfold maxLen; omega)); have HBY := Lib.hid (show (acc.length + 3) * 32 ≤ 140737488355328 from (by omega)); have HBS := Lib.hid (show W1.heap.size ≤ (w2.alloc (.cells (ptsCells [(a, b), (a, a), (a, c)]).toArray 119)).heap.size from (by simp; omega)); clear hb2 hp2 hq2 hs22) | (refine step_append_lies _ rfl (.tmp 37) (.tmp 48) 90 rfl W1.heap.size 119 i1 (.agg #[.int .i64 0, .int .i64 0, .int .i64 0, .int .i64 0]) 4 32 Try.underlying90 RI.out RZ0.out RZ1.out RZ2.out rfl (by decide) (.slice E acc.length d) acc.length (ptsCells acc) (by simp [Act.eval]) HOW.out ⟨w2.heap.size, 0, none⟩ 3 3 (ptsCells [(a, b), (a, a), (a, c)]) (by simp [Act.eval]) HLN.out HNEW.out (pts_one _) (by decide) HMX.out HBY.out HBS.out (w2.heap.size + 1) (by simp) ?_; intro g3 c3 w3 hown3 hg3 hat3 hlt3; have hbf : Below W1.heap.size W1 w3 := HBB.out.grown hg3 HBS.out (fun kk e => (HOW.out.lt kk e).1); have HBF := Lib.hid hbf; have HG3 := Lib.hid hown3; obtain ⟨u0, u1, -, -⟩ := (HP1.out.below hbf).two; obtain ⟨v0, v1, -, -⟩ := (HR1.out.below hbf).two; have f4 := ((HQ1.out.below hbf).cell 4).trans (squad_who W W.length (k := 2) (by omega)); have f5 := ((HQ1.out.below hbf).cell 5).trans (squad_time W W.length (k := 2) (by omega)); rw [← HWC.out] at f4 f5; clear hbf hown3 hg3 hat3) | fail)
      have HBG := Lib.hid (HB1.out.trans (HBF.out.mono (Nat.le_of_lt hgl)))
      have hof : w3.ownsRow w.heap.size 119 4 (.slice (some ⟨g3, 0, none⟩) (acc.length + 3) c3) (acc.length + 3) (ptsCells (tripsT f W W.length)) := by
        rw [← HACC.out, pts_app]
        exact own_lower HG3.out (Nat.le_of_lt hgl)
      have HOF := Lib.hid hof
      have HLF : Hid ((tripsT f W W.length).length = acc.length + 3) := by show _ = _; rw [← HACC.out]; simp
      clear hof
      go_wp2
      rw [Exit.noGoto_ret]
      go_ret
      exact ⟨some ⟨g3, 0, none⟩, c3, by rw [HLF.out]; rfl, by rw [HLF.out]; exact HOF.out, HBG.out⟩
    have hk4 : 4 ≤ k := by omega
    obtain ⟨y, hky⟩ : ∃ y, y + 2 = k := ⟨k - 2, by omega⟩
    obtain ⟨z, hkz⟩ : ∃ z, z + 1 = k := ⟨k - 1, by omega⟩
    have hs2 : (k : Int) - 2 = (y : Int) := by omega
    have hs1 : (k : Int) - 1 = (z : Int) := by omega
    have hw2 : IntKind.i64.wrap ((k : Int) - 2) = (y : Int) := by rw [hs2]; exact IntWalk.i64_in _ (by omega)
    have hw1 : IntKind.i64.wrap ((k : Int) - 1) = (z : Int) := by rw [hs1]; exact IntWalk.i64_in _ (by omega)
    have hwy : IntKind.i64.wrap (y : Int) = (y : Int) := IntWalk.i64_in _ (by omega)
    have hwz' : IntKind.i64.wrap (z : Int) = (z : Int) := IntWalk.i64_in _ (by omega)
    have hb1 : ((k : Int) == 1) = false := by simp; omega
    have hb2 : ((k : Int) == 2) = false := by simp; omega
    have hb3 : ((k : Int) == 3) = false := by simp; omega
    have hy0 : (0 : Int) ≤ (y : Int) := by omega
    have hz0 : (0 : Int) ≤ (z : Int) := by omega
    have hy12 : (y : Int) < 12 := by omega
    have hz12 : (z : Int) < 12 := by omega
    have HZY : Hid (z = y + 1) := by show _ = _; omega
    have HACC : Hid (acc ++ (round f W y ++ tripsT f W y) = tripsT f W W.length) := by show _ = _; rw [← tripsT_step f W hk4 hky]; exact hacc
    have hY0 := (hsw.cell (2 * y)).trans (squad_who W W.length (k := y) (by omega))
    have hY1 := (hsw.cell (2 * y + 1)).trans (squad_time W W.length (k := y) (by omega))
    have hZ0 := (hsw.cell (2 * z)).trans (squad_who W W.length (k := z) (by omega))
    have hZ1 := (hsw.cell (2 * z + 1)).trans (squad_time W W.length (k := z) (by omega))
    rw [show 2 * y = y * 2 from Nat.mul_comm _ _] at hY0 hY1
    rw [show 2 * z = z * 2 from Nat.mul_comm _ _] at hZ0 hZ1
    obtain ⟨Y, hY⟩ : ∃ Y, Y = wk W y := ⟨_, rfl⟩
    obtain ⟨Z, hZ⟩ : ∃ Z, Z = wk W z := ⟨_, rfl⟩
    rw [← hY] at hY0 hY1
    rw [← hZ] at hZ0 hZ1
    have HY := Lib.hid hY
    have HZ := Lib.hid hZ
    have HKY := Lib.hid hky
    have hyk : y < k := by omega
    have hy2 : 2 ≤ y := by omega
    have hyn : y ≤ W.length := by omega
    clear hpw hqw hsw hown hacc hb hky hkz hY hZ e1 e2 e3
    go_wp2_with fail
    go_cut [9, 10] from 50 to 59 (fun s9 s10 wx => TwoBoxes wr.heap.size Y Z wr s9 s10 wx)
    case first =>
      have hn1 : ¬ wr.heap.size = w.heap.size := by omega
      have hn2 : ¬ wr.heap.size + 1 = w.heap.size := by omega
      have hn3 : ¬ w.heap.size = wr.heap.size := by omega
      have hn4 : ¬ w.heap.size = wr.heap.size + 1 := by omega
      go_region_held3 (fun w' => (w'.cell? ⟨w.heap.size, y * 2, none⟩ = some (.int .i64 Y.1) ∧ w'.cell? ⟨w.heap.size, y * 2 + 1, none⟩ = some (.int .i64 Y.2)) ∧ (w'.cell? ⟨w.heap.size, z * 2, none⟩ = some (.int .i64 Z.1) ∧ w'.cell? ⟨w.heap.size, z * 2 + 1, none⟩ = some (.int .i64 Z.2))) (go_keep) (fail)
      all_goals (go_wp2_with fail; go_meet)
      all_goals first | exact two_ab Y Z wr | exact two_ba Y Z wr
    case rest =>
      obtain ⟨w5, rfl⟩ : ∃ w5 : World, w5 = wc := ⟨_, rfl⟩
      obtain ⟨r, t, rfl, rfl, hr, ht, hrt, hwr, hwt, hb⟩ := hcut
      have H45 := Lib.hid (Four.mk (HPW.out.below hb) (HQW.out.below hb) hwr hwt)
      have HS5 := Lib.hid (HSW.out.below hb)
      have HO5 := Lib.hid (own_below HO.out hb)
      have HB5 := Lib.hid (below_then HB.out hb hwz)
      have hz5 : W1.heap.size ≤ w5.heap.size := Nat.le_trans hwz hb.size
      have HFAR : Hid (∀ kk, (Value.slice E acc.length d).ownBlock = some kk → kk ≠ p ∧ kk ≠ q ∧ kk ≠ r ∧ kk ≠ t) := fun kk e => by
        have := HO.out.lt kk e
        omega
      clear hwr hwt hb hY0 hY1 hZ0 hZ1
      cases f
      · have HAC : Hid (acc ++ ([(a, Z), (a, a), (a, Y), (a, a)] ++ tripsT false W y) = tripsT false W W.length) := by show _ = _; rw [← HACC.out, HWA.out, HY.out, HZ.out, HZY.out]; rfl
        obtain ⟨⟨i0, i1'⟩, ⟨i2, i3⟩, ⟨i4, i5⟩, i6, i7⟩ := H45.out.cells
        go_wp2_with fail
        go_region_held3 (fun w' => (w'.cell? ⟨p, 0, none⟩ = some (.int .i64 a.1) ∧ w'.cell? ⟨p, 1, none⟩ = some (.int .i64 a.2)) ∧ (w'.cell? ⟨q, 0, none⟩ = some (.int .i64 b.1) ∧ w'.cell? ⟨q, 1, none⟩ = some (.int .i64 b.2)) ∧ (w'.cell? ⟨r, 0, none⟩ = some (.int .i64 Y.1) ∧ w'.cell? ⟨r, 1, none⟩ = some (.int .i64 Y.2)) ∧ (w'.cell? ⟨t, 0, none⟩ = some (.int .i64 Z.1) ∧ w'.cell? ⟨t, 1, none⟩ = some (.int .i64 Z.2))) (go_keep)
          (first | (go_at_call 109; refine (alone_any a _).mono ?_; rintro e w7 ⟨rfl, hb7⟩; have hs7 : w6.heap.size ≤ w7.heap.size := hb7.size; have H47 := Lib.hid (H46.out.below hb7); obtain ⟨⟨l0, l1⟩, ⟨l2, l3⟩, ⟨l4, l5⟩, l6, l7⟩ := H47.out.cells; have HO7 := Lib.hid (own_below HO6.out hb7); have HB7 := Lib.hid (below_then HB6.out hb7 (Nat.le_trans hz5 hs6)); have HOW := Lib.hid (HO7.out.alloc (.cells (ptsCells [(a, Z), (a, a), (a, Y), (a, a)]).toArray 119)); have HBB := Lib.hid (HB7.out.alloc (Nat.le_trans hz5 (Nat.le_trans hs6 hs7)) (.cells (ptsCells [(a, Z), (a, a), (a, Y), (a, a)]).toArray 119)); have HNEW := Lib.hid (pts_news w7 [(a, Z), (a, a), (a, Y), (a, a)]); have HLN := Lib.hid (pts_len [(a, Z), (a, a), (a, Y), (a, a)]); have HMX := Lib.hid (show acc.length + 4 ≤ maxLen from (by unfold maxLen; omega)); have HBY := Lib.hid (show (acc.length + 4) * 32 ≤ 140737488355328 from (by omega)); have HBS := Lib.hid (show W1.heap.size ≤ (w7.alloc (.cells (ptsCells [(a, Z), (a, a), (a, Y), (a, a)]).toArray 119)).heap.size from (by simp; omega)); clear hb7) | (go_at_call 109; refine (alone_any a _).mono ?_; rintro e w6 ⟨rfl, hb6⟩; have hs6 : w5.heap.size ≤ w6.heap.size := hb6.size; have H46 := Lib.hid ((H45.out.below (Below.refl w5.heap.size w5).drew).below hb6); obtain ⟨⟨j0, j1⟩, ⟨j2, j3⟩, ⟨j4, j5⟩, j6, j7⟩ := H46.out.cells; have HO6 := Lib.hid (own_below (own_below HO5.out (Below.refl w5.heap.size w5).drew) hb6); have HB6 := Lib.hid (below_then HB5.out.drew hb6 hz5); clear hb6) | (refine step_append_lies _ rfl (.tmp 80) (.tmp 91) 90 rfl W1.heap.size 119 i1 (.agg #[.int .i64 0, .int .i64 0, .int .i64 0, .int .i64 0]) 4 32 Try.underlying90 RI.out RZ0.out RZ1.out RZ2.out rfl (by decide) (.slice E acc.length d) acc.length (ptsCells acc) (by simp [Act.eval]) HOW.out ⟨w7.heap.size, 0, none⟩ 4 4 (ptsCells [(a, Z), (a, a), (a, Y), (a, a)]) (by simp [Act.eval]) HLN.out HNEW.out (pts_one _) (by decide) HMX.out HBY.out HBS.out (w7.heap.size + 1) (by simp) ?_; intro g3 c3 w3 hown3 hg3 hat3 hlt3; have HBF := Lib.hid (HBB.out.grown hg3 HBS.out (fun kk e => (HOW.out.lt kk e).1)); have HG3 := Lib.hid hown3; have H48 := Lib.hid (four_grown (H47.out.below (below1 w7 _)) hg3 (fun kk e => HFAR.out kk e)); obtain ⟨⟨m0, m1⟩, ⟨m2, m3⟩, ⟨m4, m5⟩, m6, m7⟩ := H48.out.cells; clear hown3 hg3 hat3) | fail)
        have HLA : Hid ((acc ++ [(a, Z), (a, a), (a, Y), (a, a)]).length = acc.length + 4) := by show _ = _; simp
        go_wp2
        go_roundw
        case rel => exact ⟨y, acc ++ [(a, Z), (a, a), (a, Y), (a, a)], by omega, hyn, by go_num, ⟨some ⟨g3, 0, none⟩, c3, by rw [HLA.out], by rw [HLA.out, pts_app]; exact HG3.out, by rw [List.append_assoc]; exact HAC.out⟩, HBF.out⟩
        case measure => simp [intOf]; omega
      · obtain ⟨⟨i0, i1'⟩, ⟨i2, i3⟩, ⟨i4, i5⟩, i6, i7⟩ := H45.out.cells
        go_wp2_with (refine wpList_load_row_g rfl 114 (.tmp 2) rfl w.heap.size rfl 114 (squadCells W W.length) (0, 0) _ HS5.out Try.underlying114 rfl size_squad ?_)
        have hm0 := HMILD.out 0
        have hm1 := HMILD.out 1
        have hmy := HMILD.out y
        refine (fetchGain_any W Y w5 hm0.1 hm0.2 hm1.1 hm1.2 (by rw [HY.out]; exact hmy.1) (by rw [HY.out]; exact hmy.2)).mono ?_
        rintro e w4 ⟨rfl, hb⟩
        clear hm0 hm1 hmy i0 i1' i2 i3 i4 i5 i6 i7
        have hg0 : (wk W 0).2 + Y.2 - 2 * (wk W 1).2 = gainOf W y := by rw [HY.out]; rfl
        rw [hg0]
        clear hg0
        have H44 := Lib.hid (H45.out.below hb)
        have HO4 := Lib.hid (own_below HO5.out hb)
        have HB4 := Lib.hid (below_then HB5.out hb hz5)
        have hz4 : W1.heap.size ≤ w4.heap.size := Nat.le_trans hz5 hb.size
        clear hb H45 HO5 HB5 hz5 HS5
        have H45 := H44
        have HO5 := HO4
        have HB5 := HB4
        have hz5 := hz4
        clear H44 HO4 HB4 hz4
        obtain ⟨w5, rfl⟩ : ∃ w5 : World, w5 = w4 := ⟨_, rfl⟩
        obtain ⟨⟨i0, i1'⟩, ⟨i2, i3⟩, ⟨i4, i5⟩, i6, i7⟩ := H45.out.cells
        generalize hge : gainOf W y = gn
        by_cases hgp : 0 < gn
        · have HAC : Hid (acc ++ ([(a, b), (a, a), (Y, Z), (b, b)] ++ tripsT true W y) = tripsT true W W.length) := by show _ = _; rw [← HACC.out, HWA.out, HWB.out, HY.out, HZ.out, HZY.out, round, if_pos (by rw [hge]; simp [hgp])]
          have hgd : decide (0 < gn) = true := by simp [hgp]
          clear hge
          go_wp2_with fail
          go_region_held3 (fun w' => (w'.cell? ⟨p, 0, none⟩ = some (.int .i64 a.1) ∧ w'.cell? ⟨p, 1, none⟩ = some (.int .i64 a.2)) ∧ (w'.cell? ⟨q, 0, none⟩ = some (.int .i64 b.1) ∧ w'.cell? ⟨q, 1, none⟩ = some (.int .i64 b.2)) ∧ (w'.cell? ⟨r, 0, none⟩ = some (.int .i64 Y.1) ∧ w'.cell? ⟨r, 1, none⟩ = some (.int .i64 Y.2)) ∧ (w'.cell? ⟨t, 0, none⟩ = some (.int .i64 Z.1) ∧ w'.cell? ⟨t, 1, none⟩ = some (.int .i64 Z.2))) (go_keep)
          (first | (go_at_call 109; refine (alone_any b _).mono ?_; rintro e w7 ⟨rfl, hb7⟩; have hs7 : w6.heap.size ≤ w7.heap.size := hb7.size; have H47 := Lib.hid (H46.out.below hb7); obtain ⟨⟨l0, l1⟩, ⟨l2, l3⟩, ⟨l4, l5⟩, l6, l7⟩ := H47.out.cells; have HO7 := Lib.hid (own_below HO6.out hb7); have HB7 := Lib.hid (below_then HB6.out hb7 (Nat.le_trans hz5 hs6)); have HOW := Lib.hid (HO7.out.alloc (.cells (ptsCells [(a, b), (a, a), (Y, Z), (b, b)]).toArray 119)); have HBB := Lib.hid (HB7.out.alloc (Nat.le_trans hz5 (Nat.le_trans hs6 hs7)) (.cells (ptsCells [(a, b), (a, a), (Y, Z), (b, b)]).toArray 119)); have HNEW := Lib.hid (pts_news w7 [(a, b), (a, a), (Y, Z), (b, b)]); have HLN := Lib.hid (pts_len [(a, b), (a, a), (Y, Z), (b, b)]); have HMX := Lib.hid (show acc.length + 4 ≤ maxLen from (by unfold maxLen; omega)); have HBY := Lib.hid (show (acc.length + 4) * 32 ≤ 140737488355328 from (by omega)); have HBS := Lib.hid (show W1.heap.size ≤ (w7.alloc (.cells (ptsCells [(a, b), (a, a), (Y, Z), (b, b)]).toArray 119)).heap.size from (by simp; omega)); clear hb7) | (go_at_call 109; refine (alone_any a _).mono ?_; rintro e w6 ⟨rfl, hb6⟩; have hs6 : w5.heap.size ≤ w6.heap.size := hb6.size; have H46 := Lib.hid ((H45.out.below (Below.refl w5.heap.size w5).drew).below hb6); obtain ⟨⟨j0, j1⟩, ⟨j2, j3⟩, ⟨j4, j5⟩, j6, j7⟩ := H46.out.cells; have HO6 := Lib.hid (own_below (own_below HO5.out (Below.refl w5.heap.size w5).drew) hb6); have HB6 := Lib.hid (below_then HB5.out.drew hb6 hz5); clear hb6) | (refine step_append_lies _ rfl (.tmp 67) (.tmp 78) 90 rfl W1.heap.size 119 i1 (.agg #[.int .i64 0, .int .i64 0, .int .i64 0, .int .i64 0]) 4 32 Try.underlying90 RI.out RZ0.out RZ1.out RZ2.out rfl (by decide) (.slice E acc.length d) acc.length (ptsCells acc) (by simp [Act.eval]) HOW.out ⟨w7.heap.size, 0, none⟩ 4 4 (ptsCells [(a, b), (a, a), (Y, Z), (b, b)]) (by simp [Act.eval]) HLN.out HNEW.out (pts_one _) (by decide) HMX.out HBY.out HBS.out (w7.heap.size + 1) (by simp) ?_; intro g3 c3 w3 hown3 hg3 hat3 hlt3; have HBF := Lib.hid (HBB.out.grown hg3 HBS.out (fun kk e => (HOW.out.lt kk e).1)); have HG3 := Lib.hid hown3; have H48 := Lib.hid (four_grown (H47.out.below (below1 w7 _)) hg3 (fun kk e => HFAR.out kk e)); obtain ⟨⟨m0, m1⟩, ⟨m2, m3⟩, ⟨m4, m5⟩, m6, m7⟩ := H48.out.cells; clear hown3 hg3 hat3) | fail)
          have HLA : Hid ((acc ++ [(a, b), (a, a), (Y, Z), (b, b)]).length = acc.length + 4) := by show _ = _; simp
          go_wp2
          go_roundw
          case rel => exact ⟨y, acc ++ [(a, b), (a, a), (Y, Z), (b, b)], by omega, hyn, by go_num, ⟨some ⟨g3, 0, none⟩, c3, by rw [HLA.out], by rw [HLA.out, pts_app]; exact HG3.out, by rw [List.append_assoc]; exact HAC.out⟩, HBF.out⟩
          case measure => simp [intOf]; omega
        · have HAC : Hid (acc ++ ([(a, Z), (a, a), (a, Y), (a, a)] ++ tripsT true W y) = tripsT true W W.length) := by show _ = _; rw [← HACC.out, HWA.out, HY.out, HZ.out, HZY.out, round, if_neg (by rw [hge]; simp; omega)]
          have hgd : decide (0 < gn) = false := by simp; omega
          clear hge
          go_wp2_with fail
          go_region_held3 (fun w' => (w'.cell? ⟨p, 0, none⟩ = some (.int .i64 a.1) ∧ w'.cell? ⟨p, 1, none⟩ = some (.int .i64 a.2)) ∧ (w'.cell? ⟨q, 0, none⟩ = some (.int .i64 b.1) ∧ w'.cell? ⟨q, 1, none⟩ = some (.int .i64 b.2)) ∧ (w'.cell? ⟨r, 0, none⟩ = some (.int .i64 Y.1) ∧ w'.cell? ⟨r, 1, none⟩ = some (.int .i64 Y.2)) ∧ (w'.cell? ⟨t, 0, none⟩ = some (.int .i64 Z.1) ∧ w'.cell? ⟨t, 1, none⟩ = some (.int .i64 Z.2))) (go_keep)
          (first | (go_at_call 109; refine (alone_any a _).mono ?_; rintro e w7 ⟨rfl, hb7⟩; have hs7 : w6.heap.size ≤ w7.heap.size := hb7.size; have H47 := Lib.hid (H46.out.below hb7); obtain ⟨⟨l0, l1⟩, ⟨l2, l3⟩, ⟨l4, l5⟩, l6, l7⟩ := H47.out.cells; have HO7 := Lib.hid (own_below HO6.out hb7); have HB7 := Lib.hid (below_then HB6.out hb7 (Nat.le_trans hz5 hs6)); have HOW := Lib.hid (HO7.out.alloc (.cells (ptsCells [(a, Z), (a, a), (a, Y), (a, a)]).toArray 119)); have HBB := Lib.hid (HB7.out.alloc (Nat.le_trans hz5 (Nat.le_trans hs6 hs7)) (.cells (ptsCells [(a, Z), (a, a), (a, Y), (a, a)]).toArray 119)); have HNEW := Lib.hid (pts_news w7 [(a, Z), (a, a), (a, Y), (a, a)]); have HLN := Lib.hid (pts_len [(a, Z), (a, a), (a, Y), (a, a)]); have HMX := Lib.hid (show acc.length + 4 ≤ maxLen from (by unfold maxLen; omega)); have HBY := Lib.hid (show (acc.length + 4) * 32 ≤ 140737488355328 from (by omega)); have HBS := Lib.hid (show W1.heap.size ≤ (w7.alloc (.cells (ptsCells [(a, Z), (a, a), (a, Y), (a, a)]).toArray 119)).heap.size from (by simp; omega)); clear hb7) | (go_at_call 109; refine (alone_any a _).mono ?_; rintro e w6 ⟨rfl, hb6⟩; have hs6 : w5.heap.size ≤ w6.heap.size := hb6.size; have H46 := Lib.hid ((H45.out.below (Below.refl w5.heap.size w5).drew).below hb6); obtain ⟨⟨j0, j1⟩, ⟨j2, j3⟩, ⟨j4, j5⟩, j6, j7⟩ := H46.out.cells; have HO6 := Lib.hid (own_below (own_below HO5.out (Below.refl w5.heap.size w5).drew) hb6); have HB6 := Lib.hid (below_then HB5.out.drew hb6 hz5); clear hb6) | (refine step_append_lies _ rfl (.tmp 80) (.tmp 91) 90 rfl W1.heap.size 119 i1 (.agg #[.int .i64 0, .int .i64 0, .int .i64 0, .int .i64 0]) 4 32 Try.underlying90 RI.out RZ0.out RZ1.out RZ2.out rfl (by decide) (.slice E acc.length d) acc.length (ptsCells acc) (by simp [Act.eval]) HOW.out ⟨w7.heap.size, 0, none⟩ 4 4 (ptsCells [(a, Z), (a, a), (a, Y), (a, a)]) (by simp [Act.eval]) HLN.out HNEW.out (pts_one _) (by decide) HMX.out HBY.out HBS.out (w7.heap.size + 1) (by simp) ?_; intro g3 c3 w3 hown3 hg3 hat3 hlt3; have HBF := Lib.hid (HBB.out.grown hg3 HBS.out (fun kk e => (HOW.out.lt kk e).1)); have HG3 := Lib.hid hown3; have H48 := Lib.hid (four_grown (H47.out.below (below1 w7 _)) hg3 (fun kk e => HFAR.out kk e)); obtain ⟨⟨m0, m1⟩, ⟨m2, m3⟩, ⟨m4, m5⟩, m6, m7⟩ := H48.out.cells; clear hown3 hg3 hat3) | fail)
          have HLA : Hid ((acc ++ [(a, Z), (a, a), (a, Y), (a, a)]).length = acc.length + 4) := by show _ = _; simp
          go_wp2
          go_roundw
          case rel => exact ⟨y, acc ++ [(a, Z), (a, a), (a, Y), (a, a)], by omega, hyn, by go_num, ⟨some ⟨g3, 0, none⟩, c3, by rw [HLA.out], by rw [HLA.out, pts_app]; exact HG3.out, by rw [List.append_assoc]; exact HAC.out⟩, HBF.out⟩
          case measure => simp [intOf]; omega
end Go.Proofs.Ytgojakcepbdajaa

namespace Go.Proofs.Ytgojakcepbdajaa
open Go.RowKit

/-- What a call hands back that makes a list of lists and tells whether it did. -/
def BackPost (ls : List (List Int)) (ok : Bool) (w : World) (e : Ending) (w' : World) : Prop :=
  ∃ (A : Option Addr) (n c : Nat) (rs : List RowV), e = .returned (.tuple #[.slice A n c, .bool ok]) ∧ rowNums rs = ls ∧ rs.length = n ∧ FreeGrid w' w.heap.size w'.heap.size A rs ∧ Below w.heap.size w w'
theorem BackPost.no {w w' : World} (h : Below w.heap.size w w') : BackPost [] false w (.returned (.tuple #[.slice none 0 0, .bool false])) w' :=
  ⟨none, 0, 0, [], rfl, rfl, rfl, (Heads.nil w' w.heap.size).free, h⟩
theorem part_lens {w : World} {A : Option Addr} {rs : List RowV} (h : Grid w A rs) : part rs rs.length = ((rowNums rs).map List.length).sum := by
  rw [part_sum]
  have : ∀ ts : List RowV, (∀ r ∈ ts, r.xs.length = r.n) → ts.map RowV.n = (rowNums ts).map List.length := by
    intro ts ht
    simp only [rowNums, List.map_map]
    exact List.map_congr_left fun r hr => (ht r hr).symm
  rw [this rs fun r hr => (h.2 r hr).2.1]
theorem sum_lens {ls : List (List Int)} {k : Nat} (h : ∀ l ∈ ls, l.length ≤ k) : (ls.map List.length).sum ≤ k * ls.length := by
  induction ls with
  | nil => simp
  | cons l ls ih =>
    have h1 := h l (by simp)
    have h2 := ih fun x hx => h x (List.mem_cons_of_mem _ hx)
    rw [List.map_cons, List.sum_cons, List.length_cons, Nat.mul_succ]
    omega
end Go.Proofs.Ytgojakcepbdajaa

namespace Go.Proofs.Ytgojakcepbdajaa
open Go.RowKit

/-- The rising lists of at most m that begin with b and go on with some of the others, at least one of them; each ahead of those that it begins. -/
def subs (m : Nat) : List Int → List Int → List (List Int)
  | [], _ => []
  | k :: r, b => if m ≤ b.length then [] else ((b ++ [k]) :: subs m r (b ++ [k])) ++ subs m r b
theorem subs_full {m : Nat} {b : List Int} (h : m ≤ b.length) : ∀ o : List Int, subs m o b = []
  | [] => rfl
  | _ :: _ => if_pos h
theorem subs_next {m : Nat} {b o : List Int} {i : Nat} (hi : i < o.length) (h : b.length < m) : subs m (o.drop i) b = ((b ++ [o[i]]) :: subs m (o.drop (i + 1)) (b ++ [o[i]])) ++ subs m (o.drop (i + 1)) b := by
  rw [List.drop_eq_getElem_cons hi, subs, if_neg (by omega)]
theorem subs_len (m : Nat) : ∀ (o b : List Int), (subs m o b).length + 1 ≤ 2 ^ o.length
  | [], _ => by simp [subs]
  | k :: r, b => by
    have h1 := subs_len m r (b ++ [k])
    have h2 := subs_len m r b
    rw [subs, List.length_cons, Nat.pow_succ]
    split
    · have : 0 < 2 ^ r.length := Nat.pos_of_ne_zero (by simp)
      simp
      omega
    · simp only [List.length_append, List.length_cons]
      omega
theorem subs_small {m : Nat} {o b : List Int} (h : o.length ≤ 8) : (subs m o b).length ≤ 255 := by
  have h1 := subs_len m o b
  have h2 : 2 ^ o.length ≤ 2 ^ 8 := Nat.pow_le_pow_right (by omega) h
  omega

theorem subs_mem (m : Nat) : ∀ (o b l : List Int), l ∈ subs m o b ↔ ∃ c, l = b ++ c ∧ c ≠ [] ∧ c.Sublist o ∧ l.length ≤ m := by
  intro o
  induction o with
  | nil =>
    intro b l
    constructor
    · intro h
      simp [subs] at h
    · rintro ⟨c, -, hne, hs, -⟩
      exact absurd (List.sublist_nil.1 hs) hne
  | cons k r ih =>
    intro b l
    rw [subs]
    by_cases hm : m ≤ b.length
    · rw [if_pos hm]
      constructor
      · intro h
        simp at h
      · rintro ⟨c, rfl, hne, -, hl⟩
        have : 0 < c.length := List.length_pos_iff.2 hne
        rw [List.length_append] at hl
        omega
    · rw [if_neg hm, List.mem_append, List.mem_cons, ih, ih]
      constructor
      · rintro ((rfl | ⟨c, rfl, hne, hs, hl⟩) | ⟨c, rfl, hne, hs, hl⟩)
        · refine ⟨[k], rfl, by simp, ?_, by simp; omega⟩
          exact (List.nil_sublist r).cons_cons k
        · refine ⟨k :: c, by simp, by simp, hs.cons_cons k, hl⟩
        · exact ⟨c, rfl, hne, hs.cons k, hl⟩
      · rintro ⟨c, rfl, hne, hs, hl⟩
        cases hs with
        | cons _ h => exact .inr ⟨c, rfl, hne, h, hl⟩
        | cons_cons _ h =>
          rename_i c'
          by_cases hc : c' = []
          · subst hc
            exact .inl (.inl rfl)
          · exact .inl (.inr ⟨c', by simp, hc, h, hl⟩)

theorem FreeRows.grown {w w' : World} {ps : List (Nat × Nat)} {rs : List RowV} {row : Option Nat} (h : FreeRows w ps rs) (hg : w.grownBy w' row) (hd : ∀ g, row = some g → ∀ p ∈ ps, g < p.1 ∨ p.2 ≤ g) : FreeRows w' ps rs :=
  ⟨h.1, fun k r p hr hp => ⟨fresh_grown (h.2.1 k r p hr hp).1 hg (fun g e => hd g e p (List.mem_of_getElem? hp)), (h.2.1 k r p hr hp).2⟩, h.2.2⟩
theorem FreeRows.join {w : World} {ps qs : List (Nat × Nat)} {rs ss : List RowV} (h : FreeRows w ps rs) (h' : FreeRows w qs ss) (hd : ∀ p ∈ ps, ∀ q ∈ qs, p.2 ≤ q.1) : FreeRows w (ps ++ qs) (rs ++ ss) := by
  obtain ⟨a1, a2, a3⟩ := h
  obtain ⟨b1, b2, b3⟩ := h'
  refine ⟨by simp [a1, b1], fun k r p hr hp => ?_, fun i j p p' hij hp hp' => ?_⟩
  · rcases Nat.lt_or_ge k rs.length with hk | hk
    · rw [List.getElem?_append_left hk] at hr
      rw [List.getElem?_append_left (by omega)] at hp
      exact a2 k r p hr hp
    · rw [List.getElem?_append_right hk] at hr
      rw [List.getElem?_append_right (by omega), a1] at hp
      exact b2 _ r p hr hp
  · rcases Nat.lt_or_ge i ps.length with hi | hi <;> rcases Nat.lt_or_ge j ps.length with hj | hj
    · rw [List.getElem?_append_left hi] at hp
      rw [List.getElem?_append_left hj] at hp'
      exact a3 i j p p' hij hp hp'
    · rw [List.getElem?_append_left hi] at hp
      rw [List.getElem?_append_right hj] at hp'
      exact .inl (hd p (List.mem_of_getElem? hp) p' (List.mem_of_getElem? hp'))
    · rw [List.getElem?_append_right hi] at hp
      rw [List.getElem?_append_left hj] at hp'
      exact .inr (hd p' (List.mem_of_getElem? hp') p (List.mem_of_getElem? hp))
    · rw [List.getElem?_append_right hi] at hp
      rw [List.getElem?_append_right hj] at hp'
      exact b3 _ _ p p' (by omega) hp hp'
/-- Lists of lists put behind others, both made by the call. -/
theorem Heads.join {w w1 w2 : World} {lo c d cap g : Nat} {A B : Option Addr} {rs ss : List RowV} (h : Heads w lo A c rs) (hlo : lo ≤ w.heap.size) (hb : Below w.heap.size w w1) (h' : Heads w1 w.heap.size B d ss)
    (hown : w2.ownsRow lo 25 1 (.slice (some ⟨g, 0, none⟩) (rs.length + ss.length) cap) (rs.length + ss.length) (rowVals rs ++ rowVals ss)) (hg : w1.grownBy w2 (Value.slice A rs.length c).ownBlock)
    (hat : (Value.slice A rs.length c).ownBlock = some g ∨ g = w1.heap.size) : Heads w2 lo (some ⟨g, 0, none⟩) cap (rs ++ ss) := by
  obtain ⟨h1, ps, h2, h3, h4⟩ := h
  obtain ⟨-, qs, k2, k3, -⟩ := h'
  have hsz := hb.size
  have hsg := hg.size
  have hob : ∀ q, (Value.slice A rs.length c).ownBlock = some q → ∃ a : Addr, A = some a ∧ a.block = q ∧ q < w.heap.size := by
    intro q hq
    cases A with
    | none => simp [Value.ownBlock] at hq
    | some a => exact ⟨a, rfl, by simpa [Value.ownBlock] using hq, (h1.lt q hq).2⟩
  refine ⟨by rw [List.length_append]; show World.ownsRow _ _ _ _ _ _ _; simpa [rowVals] using hown, ps ++ qs, ?_, ?_, ?_⟩
  · refine (FreeRows.join (h2.below hb) k2 fun p hp q hq => ?_).grown hg ?_
    · have := (h3 p hp).2; have := (k3 q hq).1; omega
    · intro q hq p hp
      obtain ⟨a, hA, hq2, hl⟩ := hob q hq
      rcases List.mem_append.1 hp with hp | hp
      · have := h4 a hA p hp; omega
      · have := (k3 p hp).1; omega
  · intro p hp
    rcases List.mem_append.1 hp with hp | hp
    · exact ⟨(h3 p hp).1, by have := (h3 p hp).2; omega⟩
    · exact ⟨by have := (k3 p hp).1; omega, by have := (k3 p hp).2; omega⟩
  · intro a ha p hp
    obtain rfl : (⟨g, 0, none⟩ : Addr) = a := Option.some.inj ha
    show g < p.1 ∨ p.2 ≤ g
    rcases List.mem_append.1 hp with hp | hp
    · rcases hat with hat | hat
      · obtain ⟨a, hA, hq2, -⟩ := hob g hat
        have := h4 a hA p hp
        omega
      · have := (h3 p hp).2
        omega
    · rcases hat with hat | hat
      · obtain ⟨a, hA, hq2, hl⟩ := hob g hat
        have := (k3 p hp).1
        omega
      · have := (k3 p hp).2
        omega
theorem Heads.raise {w : World} {lo lo' c : Nat} {A : Option Addr} {rs : List RowV} (h : Heads w lo A c rs) (hl : lo' ≤ lo) : Heads w lo' A c rs := by
  obtain ⟨h1, ps, h2, h3, h4⟩ := h
  refine ⟨?_, ps, h2, fun p hp => ⟨Nat.le_trans hl (h3 p hp).1, (h3 p hp).2⟩, h4⟩
  obtain ⟨hn, h | ⟨g, cap, cur, hv, hg, r⟩⟩ := h1
  · exact ⟨hn, .inl h⟩
  · exact ⟨hn, .inr ⟨g, cap, cur, hv, Nat.le_trans hl hg, r⟩⟩
/-- What a call hands back that makes a list of lists to which more can be appended. -/
def SubsPost (ls : List (List Int)) (w : World) (e : Ending) (w' : World) : Prop :=
  ∃ (A : Option Addr) (c : Nat) (rs : List RowV), e = .returned (.slice A rs.length c) ∧ rowNums rs = ls ∧ (A = none → rs = [] ∧ c = 0) ∧ (∀ a, A = some a → a = ⟨a.block, 0, none⟩ ∧ 0 < rs.length) ∧ Heads w' w.heap.size A c rs ∧ Below w.heap.size w w'
end Go.Proofs.Ytgojakcepbdajaa

namespace Go.Proofs.Ytgojakcepbdajaa
open Go.RowKit

/-- slices.Clone of a list, to which more can be appended. -/
def OwnOr (xs : List Int) (w : World) (e : Ending) (w' : World) : Prop :=
  ∃ (A : Option Addr) (c : Nat), e = .returned (.slice A xs.length c) ∧ w'.ownsRow w.heap.size 3 1 (.slice A xs.length c) xs.length (nums xs) ∧ Below w.heap.size w w'

set_option maxHeartbeats 800000 in
set_option maxRecDepth 100000 in
theorem cloneO_any (A : Option Addr) (n d : Nat) (bs : List Int) (w : World) (hB : Holds w A (nums bs)) (hy : bs.length = n) (hn : n ≤ 1048576) (hnil : A = none → n = 0 ∧ d = 0) :
    Calls Try.prog 84 #[.slice A n d] w (OwnOr bs w) := by
  subst hy
  cases A with
  | none =>
    obtain ⟨h0, rfl⟩ := hnil rfl
    obtain rfl := List.length_eq_zero_iff.1 h0
    clear h0
    go_enter Try.func84, Try.ntmps84
    have hnl := fun (W : World) => Lib.run_eql_slice_nil (P := Try.prog) W 25 3 none 0 0 0 0 Try.underlying25
    go_wp2
    go_ret
    exact ⟨none, 0, rfl, World.ownsRow_nil _ _ _ _, Below.refl _ _⟩
  | some ad =>
    obtain ⟨b, o, had⟩ : ∃ b o, (nums bs = [] ∨ ad = ⟨b, o, none⟩) := by
      rcases hB with h | ⟨b, o, h, -, -⟩
      · exact ⟨0, 0, .inl h⟩
      · exact ⟨b, o, .inr (Option.some.inj h)⟩
    obtain ⟨i0, hi, hz0, hz1, hz2⟩ := info_parts info_int
    have HI := Lib.hid hi
    have HZ0 := Lib.hid hz0
    have HZ1 := Lib.hid hz1
    have HZ2 := Lib.hid hz2
    have hnews : ∀ j u, (nums bs)[j]? = some u → (w.alloc (.cells #[] 3)).cell? (ad.add j) = some u := fun j u hu => by
      rcases hB with h | ⟨b, o, h, hb, hcell⟩
      · rw [h] at hu; simp at hu
      · obtain rfl : ad = ⟨b, o, none⟩ := by simpa using h
        rw [show (⟨b, o, none⟩ : Addr).add j = ⟨b, o + j, none⟩ from by unfold Addr.add; split <;> simp_all, World.cell?_alloc_lt _ _ _ hb]
        exact hcell j u hu
    clear hi hz0 hz1 hz2 had hnil
    go_enter Try.func84, Try.ntmps84
    have hnl := fun (W : World) => Lib.run_eql_slice_nil (P := Try.prog) W 25 3 (some ad) bs.length d 0 0 Try.underlying25
    have HOWN := Lib.hid (World.ownsRow_made (base := w.heap.size) (e := 3) (size := 1) w #[] 0 (Nat.le_refl _) (by unfold maxLen; omega) rfl)
    have HNEWS := Lib.hid hnews
    have HLEN := Lib.hid (show (nums bs).length = bs.length * 1 by rw [nums_len, Nat.mul_one])
    have HONE := Lib.hid (ints_one bs)
    have HMAX := Lib.hid (show 0 + bs.length ≤ maxLen by unfold maxLen; omega)
    have HBYT := Lib.hid (show (0 + bs.length) * 8 ≤ 140737488355328 by omega)
    clear hnews
    go_wp2_with (at_builtin; refine wpList_append_own _ rfl (.tmp 5) (.tmp 6) 25 rfl w.heap.size 3 i0 (.int .i64 0) 1 8 Try.underlying25 HI.out HZ0.out HZ1.out HZ2.out rfl (by decide) _ 0 [] rfl HOWN.out ad bs.length d (nums bs) rfl HLEN.out HNEWS.out HONE.out HMAX.out HBYT.out (by simp) ?_; intro v' w1 hown1 hg1 _)
    go_ret
    simp only [Nat.zero_add, List.nil_append] at hown1
    have hbe := (below1 w (.cells #[] 3)).grown hg1 (by simp) (fun k hk => Nat.le_of_eq (Option.some.inj (show some w.heap.size = some k from hk)))
    obtain ⟨A1, c1, rfl⟩ := own_shape hown1
    exact ⟨A1, c1, rfl, hown1, hbe⟩

/-- Where the list behind a place lies, nil or not: at the list's own address where no room is left behind that place. -/
theorem behind_at {w : World} {A : Option Addr} {n c k : Nat} {xs : List Int} (h : Holds w A (nums xs)) (hx : xs.length = n) (hn : n ≤ c) (hk : k < n) :
    ∃ b o d, A = some ⟨b, o, none⟩ ∧ b < w.heap.size ∧ (if c = k + 1 then some (⟨b, o, none⟩ : Addr) else some ⟨b, o + (k + 1), none⟩) = some ⟨b, d, none⟩ ∧ Holds w (some ⟨b, d, none⟩) (nums (xs.drop (k + 1))) := by
  rcases h with h | ⟨b, o, rfl, hb, hc⟩
  · have := congrArg List.length h
    rw [nums_len, List.length_nil] at this
    omega
  · obtain ⟨d, hd, hh⟩ := tail_at (w := w) (b := b) (o := o) (n := n) (c := c) (k := k) (xs := xs) hc hx hn
    exact ⟨b, o, d, rfl, hb, hd, .inr ⟨b, d, rfl, hb, hh.out⟩⟩

theorem holds_of_own {w : World} {base : Nat} {e : TypeId} {A : Option Addr} {n c : Nat} {xs : List Value} (h : w.ownsRow base e 1 (.slice A n c) n xs) : Holds w A xs := by
  obtain ⟨A', c', hv, hf⟩ := Fresh.of_own h (Nat.le_refl _)
  obtain ⟨rfl, -⟩ : A = A' ∧ c = c' := by simpa using hv
  exact hf.holds

theorem rowVals_one (rs : List RowV) : ∀ u ∈ rowVals rs, u.oneCell' = true := by
  intro v hv
  simp only [rowVals, List.mem_map] at hv
  obtain ⟨x, -, rfl⟩ := hv
  rfl
theorem own_fresh0' {w : World} {lo n c : Nat} {ty : TypeId} {A : Option Addr} {xs : List Value} (h : w.ownsRow lo ty 1 (.slice A n c) n xs) : Fresh w lo w.heap.size ty A xs := by
  obtain ⟨A', c', hv, hf⟩ := Fresh.of_own h (Nat.le_refl _)
  obtain ⟨rfl, -⟩ : A = A' ∧ c = c' := by simpa using hv
  exact hf

end Go.Proofs.Ytgojakcepbdajaa

namespace Go.Proofs.Ytgojakcepbdajaa
open Go.RowKit

theorem mild_ord {xs : List Int} (h : ∀ y ∈ xs, 1 ≤ y ∧ y ≤ 1000) : Mild (mk xs (ord xs)) := by
  intro k
  by_cases hk : k < (ord xs).length
  · rw [wk_mk hk]
    have hm := ord_mem (List.getElem_mem hk)
    have hx : ((ord xs)[k]).toNat < xs.length := by omega
    have := h _ (List.getElem_mem hx)
    show 0 ≤ tm xs (ord xs)[k] ∧ tm xs (ord xs)[k] ≤ 1000
    simp only [tm, List.getD_eq_getElem?_getD, List.getElem?_eq_getElem hx, Option.getD_some]
    omega
  · have : wk (mk xs (ord xs)) k = (0, 0) := by
      simp [wk, List.getD_eq_getElem?_getD, List.getElem?_eq_none (show (mk xs (ord xs)).length ≤ k by rw [mk_len]; omega)]
    rw [this]
    simp
/-- All trips for some times, if they are times; else none. -/
def prTs (f : Bool) (xs : List Int) : List Pt := if prOk xs then tripsT f (mk xs (ord xs)) xs.length else []
theorem prTs_yes {f : Bool} {xs : List Int} (h : prOk xs = true) : prTs f xs = tripsT f (mk xs (ord xs)) xs.length := if_pos h
theorem prTs_no {f : Bool} {xs : List Int} (h : prOk xs = false) : prTs f xs = [] := if_neg (by simp [h])
theorem prTs_len (f : Bool) (xs : List Int) : (prTs f xs).length ≤ 24 := by
  cases h : prOk xs
  · rw [prTs_no h]; simp
  · rw [prTs_yes h]
    have := trips_len f (mk xs (ord xs)) xs.length
    have := (prOk_parts h).2.1
    omega
theorem prTs_ok {f : Bool} {xs : List Int} : ∀ t ∈ prTs f xs, OkT xs t := by
  cases h : prOk xs
  · rw [prTs_no h]; simp
  · rw [prTs_yes h]
    exact trips_ok (good_ord xs) f _ (by rw [mk_len, ord_len]; exact Nat.le_refl _)
theorem prTs_mild {f : Bool} {xs : List Int} : ∀ t ∈ prTs f xs, 0 ≤ t.2.2 ∧ t.2.2 ≤ 1000 := by
  intro t ht
  cases h : prOk xs
  · rw [prTs_no h] at ht; simp at ht
  · have ho := prTs_ok t ht
    have hm := (prOk_parts h).2.2
    obtain ⟨-, ⟨h1, h2, h3⟩, -⟩ := ho
    rw [h1]
    have hx : (t.2.1).toNat < xs.length := by omega
    have := hm _ (List.getElem_mem hx)
    simp only [tm, List.getD_eq_getElem?_getD, List.getElem?_eq_getElem hx, Option.getD_some]
    omega
/-- What pairTrips hands back. -/
def PairsPost (ts : List Pt) (ok : Bool) (w : World) (e : Ending) (w' : World) : Prop :=
  ∃ (E : Option Addr) (d : Nat), e = .returned (.tuple #[.slice E ts.length d, .bool ok]) ∧ w'.ownsRow w.heap.size 119 4 (.slice E ts.length d) ts.length (ptsCells ts) ∧ Below w.heap.size w w'

set_option maxHeartbeats 3200000 in
set_option maxRecDepth 100000 in
theorem pairTrips_any (A : Option Addr) (n c : Nat) (xs : List Int) (f : Bool) (w : World) (hA : Holds w A (nums xs)) (hx : xs.length = n) (hn : n ≤ 9223372036854775807) :
    Calls Try.prog 85 #[.slice A n c, .bool f] w (PairsPost (prTs f xs) (prOk xs) w) := by
  have HX := Lib.hid hx
  clear hx
  go_enter Try.func85, Try.ntmps85
  go_wp2_with fail
  refine (squadOf_any A n c xs _ hA HX.out hn).mono ?_
  rintro e w1 hpost
  rcases hpost with ⟨⟨hp, rfl⟩ | ⟨hp, rfl⟩, hb⟩
  · have HP := Lib.hid hp
    have hmp := prOk_parts hp
    have HM := Lib.hid (mild_ord hmp.2.2)
    have h12 := hmp.2.1
    have h1 := hmp.1
    have HB := Lib.hid hb
    have HWL : Hid ((mk xs (ord xs)).length = xs.length) := by show _ = _; rw [mk_len, ord_len]
    clear hp hmp hb
    generalize hW : mk xs (ord xs) = W at HM HWL ⊢
    have HW := Lib.hid hW
    clear hW
    go_upto_region 2 with (refine wpList_store_whole rfl 114 (.tmp 6) (.tmp 11) rfl w1.heap.size (squadCells W xs.length) rfl rfl 114 _ (Whole.fresh _ _ _) size_squad rfl (squad_one _ _) ?_; intro W2 hw2 ho2)
    have hb2 := ho2.below (HB.out.alloc HB.out.size (.cells (squadCells [] 0) 114)) HB.out.size
    have HW2 := Lib.hid hw2
    have HB2 := Lib.hid hb2
    clear hw2 ho2 hb2
    go_wp2_with (refine wpList_load_row rfl 114 (.tmp 6) rfl w1.heap.size rfl 114 (squadCells W xs.length) (0, 0) _ HW2.out Try.underlying114 rfl size_squad ?_)
    have htr := trips_any W f W2 (by rw [HWL.out]; exact h1) (by rw [HWL.out]; exact h12) HM.out
    rw [HWL.out] at htr
    refine htr.mono ?_
    clear htr
    rintro e w3 ⟨E, d, rfl, hown, hb3⟩
    have HO := Lib.hid (own_lower hown HB2.out.size)
    have HB3 := Lib.hid (below_then HB2.out hb3 HB2.out.size)
    clear hown hb3
    go_wp2
    go_ret2
    rw [prTs_yes HP.out, HP.out, HW.out]
    exact ⟨E, d, rfl, HO.out, HB3.out⟩
  · have HP := Lib.hid hp
    have HB := Lib.hid hb
    clear hp hb
    go_upto_region 2 with (refine wpList_store_whole rfl 114 (.tmp 6) (.tmp 11) rfl w1.heap.size (squadCells [] 0) rfl rfl 114 _ (Whole.fresh _ _ _) size_squad rfl (squad_one _ _) ?_; intro W2 hw2 ho2)
    have hb2 := ho2.below (HB.out.alloc HB.out.size (.cells (squadCells [] 0) 114)) HB.out.size
    have HB2 := Lib.hid hb2
    clear hw2 ho2 hb2
    go_wp2
    go_ret2
    rw [prTs_no HP.out, HP.out]
    exact ⟨none, 0, rfl, World.ownsRow_nil _ _ _ _, HB2.out⟩

theorem pts_at {ts : List Pt} {k j : Nat} (hk : k < ts.length) (hj : j < 4) : (ptsCells ts)[k * 4 + j]? = (ptCells ts[k])[j]? := by
  induction ts generalizing k with
  | nil => simp at hk
  | cons t ts ih =>
    have h4 : (ptCells t).toList.length = 4 := rfl
    have hc : ptsCells (t :: ts) = (ptCells t).toList ++ ptsCells ts := rfl
    rw [hc]
    cases k with
    | zero =>
      rw [List.getElem?_append_left (by rw [h4]; omega)]
      simp
    | succ k =>
      rw [List.getElem?_append_right (by rw [h4]; omega), h4]
      have := ih (k := k) (by simpa using hk)
      simp only [List.getElem_cons_succ]
      rw [← this]
      congr 1
      omega
theorem pt_row {w : World} {b o : Nat} {ts : List Pt} {k : Nat} (h : ∀ j u, (ptsCells ts)[j]? = some u → w.cell? ⟨b, o + j, none⟩ = some u) (hk : k < ts.length) :
    w.cell? ⟨b, o + k * 4, none⟩ = some (.int .i64 ts[k].1.1) ∧ w.cell? ⟨b, o + k * 4 + 1, none⟩ = some (.int .i64 ts[k].1.2) ∧ w.cell? ⟨b, o + k * 4 + 2, none⟩ = some (.int .i64 ts[k].2.1) ∧ w.cell? ⟨b, o + k * 4 + 3, none⟩ = some (.int .i64 ts[k].2.2) :=
  ⟨h _ _ (pts_at hk (j := 0) (by omega)), by rw [Nat.add_assoc]; exact h _ _ (pts_at hk (j := 1) (by omega)), by rw [Nat.add_assoc]; exact h _ _ (pts_at hk (j := 2) (by omega)), by rw [Nat.add_assoc]; exact h _ _ (pts_at hk (j := 3) (by omega))⟩
theorem holds_at {w : World} {A : Option Addr} {xs : List Value} (h : Holds w A xs) (h0 : 0 < xs.length) : ∃ b o, A = some ⟨b, o, none⟩ ∧ b < w.heap.size ∧ ∀ j u, xs[j]? = some u → w.cell? ⟨b, o + j, none⟩ = some u := by
  rcases h with rfl | h
  · simp at h0
  · exact h
theorem timeT_next {ts : List Pt} {k : Nat} (h : k < ts.length) : timeT (ts.take (k + 1)) = timeT (ts.take k) + ts[k].2.2 := by
  rw [timeT, timeT, List.take_succ_eq_append_getElem h, List.map_append, List.sum_append]
  simp
theorem timeT_bd {ts : List Pt} (h : ∀ t ∈ ts, 0 ≤ t.2.2 ∧ t.2.2 ≤ 1000) : 0 ≤ timeT ts ∧ timeT ts ≤ 1000 * ts.length := by
  induction ts with
  | nil => simp [timeT]
  | cons t ts ih =>
    have h1 := h t (by simp)
    have h2 := ih fun x hx => h x (List.mem_cons_of_mem _ hx)
    simp only [timeT, List.map_cons, List.sum_cons, List.length_cons] at h2 ⊢
    omega

set_option maxHeartbeats 3200000 in
set_option maxRecDepth 100000 in
theorem timeOfTrips_any (E : Option Addr) (n d : Nat) (ts : List Pt) (w : World) (hE : Holds w E (ptsCells ts)) (hn : ts.length = n) (h24 : n ≤ 24) (hm : ∀ t ∈ ts, 0 ≤ t.2.2 ∧ t.2.2 ≤ 1000) :
    Calls Try.prog 86 #[.slice E n d] w fun e w' => e = .returned (.int .i64 (timeT ts)) ∧ Below w.heap.size w w' := by
  have HN := Lib.hid hn
  have HM := Lib.hid hm
  clear hn hm
  go_enter Try.func86, Try.ntmps86
  go_wp2
  go_loopw [3, 8] (fun v i wr => ∃ k : Nat, k ≤ n ∧ i = .int .i64 k ∧ v = .int .i64 (timeT (ts.take k)) ∧ Below w.heap.size w wr) (fun _ i _ => n - (intOf i).toNat)
  case atStart => exact ⟨0, Nat.zero_le _, rfl, rfl, Below.refl _ _⟩
  case round =>
    obtain ⟨k, hk, rfl, rfl, hb⟩ := hrel
    by_cases hlt : k < n
    · have hkt : k < ts.length := by have := HN.out; omega
      obtain ⟨b1, o1, rfl, -, hcell⟩ := holds_at (hE.below hb) (by rw [pts_len]; omega)
      obtain ⟨c0, c1, c2, c3⟩ := pt_row hcell hkt
      have hbd := timeT_bd (ts := ts.take k) fun t ht => HM.out t (List.mem_of_mem_take ht)
      have hlen : (ts.take k).length ≤ 24 := by simp; omega
      have hs0 := hbd.1
      have hs1 : timeT (ts.take k) ≤ 24000 := by omega
      have ht := HM.out _ (List.getElem_mem hkt)
      have HNX := Lib.hid (timeT_next hkt)
      generalize ts[k] = t at c0 c1 c2 c3 ht HNX
      obtain ⟨⟨t1, t2⟩, t3, t4⟩ := t
      dsimp only at c0 c1 c2 c3 ht
      have ht1 := ht.1
      have ht2 := ht.2
      have HB := Lib.hid (hb.alloc hb.size (.cells #[.int .i64 t1, .int .i64 t2, .int .i64 t3, .int .i64 t4] 119))
      clear hcell hbd hlen ht hb
      go_wp2
      go_roundw
      case rel => exact ⟨k + 1, by omega, by go_num, by rw [HNX.out], HB.out⟩
      case measure => simp [intOf]; omega
    · obtain rfl : k = n := by omega
      have HT : Hid (ts.take k = ts) := List.take_of_length_le (by have := HN.out; omega)
      go_wp2
      go_ret
      exact ⟨ret_of (by rw [HT.out]; rfl), hb⟩
end Go.Proofs.Ytgojakcepbdajaa

namespace Go.Proofs.Ytgojakcepbdajaa
open Go.RowKit

/-- The world with these lists laid, each in a block of its own. -/
def lay (w : World) : List (List Int) → World
  | [] => w
  | l :: ls => lay (w.alloc (.cells (nums l).toArray 3)) ls
def rowsAt (b : Nat) : List (List Int) → List RowV
  | [] => []
  | l :: ls => ⟨some ⟨b, 0, none⟩, l.length, l.length, l⟩ :: rowsAt (b + 1) ls
theorem rowsAt_len : ∀ (ls : List (List Int)) (b : Nat), (rowsAt b ls).length = ls.length
  | [], _ => rfl
  | _ :: ls, b => by rw [rowsAt, List.length_cons, List.length_cons, rowsAt_len ls (b + 1)]
theorem rowsAt_nums : ∀ (ls : List (List Int)) (b : Nat), rowNums (rowsAt b ls) = ls
  | [], _ => rfl
  | l :: ls, b => by
    have := rowsAt_nums ls (b + 1)
    simp only [rowsAt, rowNums, List.map_cons] at this ⊢
    rw [this]
theorem lay_below : ∀ (ls : List (List Int)) (w : World), Below w.heap.size w (lay w ls)
  | [], w => Below.refl _ _
  | l :: ls, w => (below1 w _).trans ((lay_below ls _).mono (by simp))
theorem lay_size : ∀ (ls : List (List Int)) (w : World), (lay w ls).heap.size = w.heap.size + ls.length
  | [], w => rfl
  | l :: ls, w => by rw [lay, lay_size ls, World.size_alloc, List.length_cons]; omega
theorem lay_own : ∀ (ls : List (List Int)) (w : World), (∀ l ∈ ls, l.length ≤ 1048576) → OwnRows (lay w ls) w.heap.size (lay w ls).heap.size (rowsAt w.heap.size ls)
  | [], w, _ => Nat.le_refl _
  | l :: ls, w, h => by
    have ih := lay_own ls (w.alloc (.cells (nums l).toArray 3)) fun x hx => h x (List.mem_cons_of_mem _ hx)
    rw [World.size_alloc] at ih
    have hw : Whole (w.alloc (.cells (nums l).toArray 3)) w.heap.size 3 (nums l).toArray := Whole.fresh w _ _
    have hw2 : Whole (lay w (l :: ls)) w.heap.size 3 (nums l).toArray := hw.below (lay_below ls _)
    refine ⟨w.heap.size + 1, Nat.le_succ _, ?_, rfl, h l (by simp), ih⟩
    have := Fresh.of_whole (lo := w.heap.size) (hi := w.heap.size + 1) hw2 (Nat.le_refl _) (Nat.lt_succ_self _)
    exact this
/-- The list of the lists laid, as one that more can be put behind. -/
theorem lay_heads (ls : List (List Int)) (w : World) (h : ∀ l ∈ ls, l.length ≤ 1048576) (hn : ls.length ≤ maxLen) :
    Heads ((lay w ls).alloc (.cells (rowVals (rowsAt w.heap.size ls)).toArray 25)) w.heap.size (some ⟨(lay w ls).heap.size, 0, none⟩) ls.length (rowsAt w.heap.size ls) := by
  obtain ⟨ps, h1, h2⟩ := (lay_own ls w h).free
  refine ⟨?_, ps, h1.below (below1 _ _), fun p hp => ⟨(h2 p hp).1, by have := (h2 p hp).2; simp; omega⟩, fun a ha p hp => ?_⟩
  · refine ⟨by rw [rowVals_len, Nat.mul_one], .inr ⟨(lay w ls).heap.size, ls.length, (rowVals (rowsAt w.heap.size ls)).toArray, by rw [rowsAt_len], by rw [lay_size]; omega, Whole.fresh _ _ _, by rw [rowsAt_len]; exact Nat.le_refl _, hn, by rw [List.size_toArray, rowVals_len, rowsAt_len, Nat.mul_one], ?_⟩⟩
    rw [Nat.mul_one, List.take_of_length_le (by simp [rowVals_len])]
  · obtain rfl := Option.some.inj ha
    exact .inr (h2 p hp).2
theorem lay_all (ls : List (List Int)) (w : World) (o : Obj) : Below w.heap.size w ((lay w ls).alloc o) := (lay_below ls w).alloc (by rw [lay_size]; omega) o
theorem lay_news (ls : List (List Int)) (w : World) : ∀ j u, (rowVals (rowsAt w.heap.size ls))[j]? = some u → ((lay w ls).alloc (.cells (rowVals (rowsAt w.heap.size ls)).toArray 25)).cell? ((⟨(lay w ls).heap.size, 0, none⟩ : Addr).add j) = some u := by
  have h := cells_fresh (lay w ls) 25 (rowVals (rowsAt w.heap.size ls)).toArray
  simpa using h
end Go.Proofs.Ytgojakcepbdajaa

namespace Go.Proofs.Ytgojakcepbdajaa
open Go.RowKit

/-- The sign of a round: f for a fetch, e for an escort. -/
def signR (f : Bool) (W : List Wk) (k : Nat) : UInt8 := if f && decide (0 < gainOf W k) then 102 else 101
def signsT (f : Bool) (W : List Wk) : Nat → List UInt8
  | 0 => []
  | 1 => []
  | 2 => []
  | 3 => []
  | k + 4 => signR f W (k + 2) :: signsT f W (k + 2)
def evenT (W : List Wk) : Nat → Bool
  | 0 => false
  | 1 => false
  | 2 => false
  | 3 => false
  | k + 4 => decide (gainOf W (k + 2) = 0) || evenT W (k + 2)
theorem signsT_step (f : Bool) (W : List Wk) {k y : Nat} (h4 : 4 ≤ k) (hy : y + 2 = k) : signsT f W k = signR f W y :: signsT f W y := by
  obtain ⟨m, rfl⟩ : ∃ m, k = m + 4 := ⟨k - 4, by omega⟩
  obtain rfl : y = m + 2 := by omega
  rw [signsT]
theorem evenT_step (W : List Wk) {k y : Nat} (h4 : 4 ≤ k) (hy : y + 2 = k) : evenT W k = (decide (gainOf W y = 0) || evenT W y) := by
  obtain ⟨m, rfl⟩ : ∃ m, k = m + 4 := ⟨k - 4, by omega⟩
  obtain rfl : y = m + 2 := by omega
  rw [evenT]
theorem tripsM_step (f : Bool) (W : List Wk) {k y : Nat} (h4 : 4 ≤ k) (hy : y + 2 = k) : (tripsT f W k).map listT = (round f W y).map listT ++ (tripsT f W y).map listT := by
  obtain ⟨m, rfl⟩ : ∃ m, k = m + 4 := ⟨k - 4, by omega⟩
  obtain rfl : y = m + 2 := by omega
  rw [tripsT, List.map_append]
theorem signsT_len (f : Bool) (W : List Wk) : ∀ k, (signsT f W k).length ≤ k
  | 0 => Nat.le_refl _
  | 1 => by simp [signsT]
  | 2 => by simp [signsT]
  | 3 => by simp [signsT]
  | k + 4 => by
    have := signsT_len f W (k + 2)
    rw [signsT, List.length_cons]
    omega
theorem list_alone (x : Wk) : listT (x, x) = [x.1] := by simp [listT, isAlone]
theorem list_pair {x y : Wk} (h : x.1 ≠ y.1) : listT (x, y) = [min x.1 y.1, max x.1 y.1] := by
  have hne : ¬ x = y := fun e => h (by rw [e])
  simp [listT, isAlone, hne]
theorem fetch_lists {xs : List Int} {W : List Wk} (h : GoodW xs W) {y : Nat} (h2 : 2 ≤ y) (hy : y + 1 < W.length) (hg : 0 < gainOf W y) :
    (round true W y).map listT = [[min (wk W 0).1 (wk W 1).1, max (wk W 0).1 (wk W 1).1], [(wk W 0).1], [min (wk W y).1 (wk W (y + 1)).1, max (wk W y).1 (wk W (y + 1)).1], [(wk W 1).1]] := by
  rw [round, if_pos (by simp [hg])]
  simp only [List.map_cons, List.map_nil, list_alone, list_pair (h.two 0 1 (by omega) (by omega)).2, list_pair (h.two y (y + 1) (by omega) hy).2]
theorem escort_lists {xs : List Int} {W : List Wk} (h : GoodW xs W) {f : Bool} {y : Nat} (h2 : 2 ≤ y) (hy : y + 1 < W.length) (hg : (f && decide (0 < gainOf W y)) = false) :
    (round f W y).map listT = [[min (wk W 0).1 (wk W (y + 1)).1, max (wk W 0).1 (wk W (y + 1)).1], [(wk W 0).1], [min (wk W 0).1 (wk W y).1, max (wk W 0).1 (wk W y).1], [(wk W 0).1]] := by
  rw [round, if_neg (by simp [hg])]
  simp only [List.map_cons, List.map_nil, list_alone, list_pair (h.two 0 (y + 1) (by omega) hy).2, list_pair (h.two 0 y (by omega) (by omega)).2]

set_option maxHeartbeats 800000 in
theorem prPair_any (x y : Int) (w : World) : Calls Try.prog 94 #[.int .i64 x, .int .i64 y] w fun e w' => e = .returned (.slice (some ⟨w.heap.size, 0, none⟩) 2 2) ∧ w' = w.alloc (.cells #[.int .i64 (min x y), .int .i64 (max x y)] 3) := by
  by_cases h : y < x
  · have HM : Hid (min x y = y ∧ max x y = x) := by show _ ∧ _; omega
    go_enter Try.func94, Try.ntmps94
    go_wp2
    go_ret
    exact ⟨rfl, by rw [HM.out.1, HM.out.2]⟩
  · have HM : Hid (min x y = x ∧ max x y = y) := by show _ ∧ _; omega
    go_enter Try.func94, Try.ntmps94
    go_wp2
    go_ret
    exact ⟨rfl, by rw [HM.out.1, HM.out.2]⟩

theorem cat_sign (l : List UInt8) (c : UInt8) (h : l.length ≤ 1048576) (W : World) : (Op.stringOp .add ⟨l.toArray⟩ ⟨#[c]⟩).run Try.prog W = .ok (.string ⟨(l ++ [c]).toArray⟩) W :=
  run_string_add_lists W l [c] (by omega) (by simp)
theorem lay_heads' (ls : List (List Int)) (w : World) (h : ∀ l ∈ ls, l.length ≤ 1048576) (hn : ls.length ≤ maxLen) :
    Heads ((lay w ls).alloc (.cells (rowVals (rowsAt w.heap.size ls)).toArray 25)) w.heap.size (some ⟨w.heap.size + ls.length, 0, none⟩) ls.length (rowsAt w.heap.size ls) := by
  have := lay_heads ls w h hn
  rwa [lay_size] at this
theorem lay_news' (ls : List (List Int)) (w : World) : ∀ j u, (rowVals (rowsAt w.heap.size ls))[j]? = some u → ((lay w ls).alloc (.cells (rowVals (rowsAt w.heap.size ls)).toArray 25)).cell? ((⟨w.heap.size + ls.length, 0, none⟩ : Addr).add j) = some u := by
  have := lay_news ls w
  rwa [lay_size] at this
theorem rowsAt_vals (b : Nat) (ls : List (List Int)) : (rowVals (rowsAt b ls)).length = ls.length * 1 := by rw [rowVals_len, rowsAt_len, Nat.mul_one]
theorem rowVals_one' (rs : List RowV) : ∀ u ∈ rowVals rs, u.oneCell' = true := by
  intro v hv
  simp only [rowVals, List.mem_map] at hv
  obtain ⟨x, -, rfl⟩ := hv
  rfl
theorem laid_size (ls : List (List Int)) (w : World) (o : Obj) : ((lay w ls).alloc o).heap.size = w.heap.size + ls.length + 1 := by rw [World.size_alloc, lay_size]
end Go.Proofs.Ytgojakcepbdajaa

namespace Go.Proofs.Ytgojakcepbdajaa
open Go.RowKit

/-- What prTrips hands back. -/
def PrPost (ls : List (List Int)) (sg : List UInt8) (ev : Bool) (w : World) (e : Ending) (w' : World) : Prop :=
  ∃ (E : Option Addr) (d : Nat) (rs : List RowV), e = .returned (.tuple #[.slice E rs.length d, .string ⟨sg.toArray⟩, .bool ev]) ∧ rowNums rs = ls ∧ Heads w' w.heap.size E d rs ∧ Below w.heap.size w w'
/-- The list of trips, under way. -/
def PrTo (T : List (List Int)) (SG : List UInt8) (EV : Bool) (f : Bool) (W : List Wk) (k lo : Nat) (w1 wr : World) (v12 v13 : Value) (E : Option Addr) (d : Nat) (acc : List RowV) : Prop :=
  rowNums acc ++ (tripsT f W k).map listT = T ∧ Heads wr lo E d acc ∧ (∃ l : List UInt8, v12 = .string ⟨l.toArray⟩ ∧ l ++ signsT f W k = SG) ∧ (∃ ev : Bool, v13 = .bool ev ∧ (ev || evenT W k) = EV) ∧ Below lo w1 wr

set_option maxHeartbeats 12800000 in
set_option maxRecDepth 100000 in
theorem prTrips_any (A : Option Addr) (n c : Nat) (xs : List Int) (e : Bool) (w : World) (hA : Holds w A (nums xs)) (hx : xs.length = n) (hp : prOk xs = true) :
    Calls Try.prog 80 #[.slice A n c, .bool e] w (PrPost ((tripsT (!e) (mk xs (ord xs)) n).map listT) (signsT (!e) (mk xs (ord xs)) n) (evenT (mk xs (ord xs)) n) w) := by
  obtain ⟨i1, ri, rz0, rz1, rz2⟩ := info_parts info_row
  have RI := Lib.hid ri
  have RZ0 := Lib.hid rz0
  have RZ1 := Lib.hid rz1
  have RZ2 := Lib.hid rz2
  have HX := Lib.hid hx
  obtain ⟨h1, h12, hmild⟩ := prOk_parts hp
  rw [hx] at h1 h12
  have HGW := Lib.hid (good_ord xs)
  have HWL : Hid ((mk xs (ord xs)).length = n) := by show _ = _; rw [mk_len, ord_len, hx]
  have HM := Lib.hid hmild
  have HORD : Hid (ordTo xs n = ord xs) := by show _ = _; rw [ord, hx]
  have HWI := Lib.hid (fun (k : Nat) (hk : k < (ord xs).length) => wk_mk (xs := xs) hk)
  have HOL : Hid ((ord xs).length = n) := by show _ = _; rw [ord_len, hx]
  generalize hW : mk xs (ord xs) = W at HGW HWL HWI ⊢
  generalize hT : (tripsT (!e) W n).map listT = T
  generalize hSG : signsT (!e) W n = SG
  generalize hEV : evenT W n = EV
  have HT := Lib.hid hT
  have HSG := Lib.hid hSG
  have HEV := Lib.hid hEV
  have htl : T.length ≤ 24 := by
    have := trips_len (!e) W n
    rw [← hT, List.length_map]
    omega
  have hsl : SG.length ≤ 12 := by
    have := signsT_len (!e) W n
    rw [← hSG]
    omega
  clear hx hp hmild hW hT hSG hEV ri rz0 rz1 rz2
  go_enter Try.func80, Try.ntmps80
  go_wp2_with fail
  refine (prOrder_any A n c xs _ hA HX.out (by omega)).mono ?_
  rintro e' w1 ⟨A1, c1, rfl, hown, hb⟩
  rw [ordTo_len] at hown ⊢
  have hbs : w.heap.size ≤ w1.heap.size := hb.size
  have HB1 := Lib.hid hb
  rcases own_some hown with ⟨-, h0, -⟩ | ⟨g, rfl, hnc⟩
  · omega
  obtain ⟨hgl, -, hcells⟩ := own_cells hown
  rw [HORD.out] at hcells
  have HOC := Lib.hid hcells
  clear hown hb hcells
  by_cases hn1 : n = 1
  · subst hn1
    have HL1 := Lib.hid (lay_heads' [[0]] w1 (by simp) (by decide))
    have HB2 := Lib.hid (below_then HB1.out (lay_all [[0]] w1 (.cells (rowVals (rowsAt w1.heap.size [[0]])).toArray 25)) hbs)
    have hT1 : T = [[0]] := by
      rw [← HT.out]
      have h := HWI.out 0 (by rw [HOL.out]; exact Nat.one_pos)
      have hm := ord_mem (List.getElem_mem (by rw [HOL.out]; exact Nat.one_pos : 0 < (ord xs).length))
      rw [HX.out] at hm
      have hz : (wk W 0).1 = 0 := by rw [h]; omega
      show [listT (wk W 0, wk W 0)] = _
      rw [list_alone, hz]
    have HT1 := Lib.hid hT1
    have HS1 : Hid (SG = []) := by show _ = _; rw [← HSG.out]; rfl
    have HE1 : Hid (EV = false) := by show _ = _; rw [← HEV.out]; rfl
    clear hT1 HT HSG HEV
    go_wp2
    refine bodyPost_ret (v := .tuple #[.slice (some ⟨w1.heap.size + 1, 0, none⟩) 1 1, .string ⟨#[]⟩, .bool false]) (by simp [results, Try.results80, go_sem]) rfl ?_
    rw [HT1.out, HS1.out, HE1.out]
    exact ⟨_, _, rowsAt w1.heap.size [[0]], rfl, rowsAt_nums _ _, HL1.out.raise hbs, HB2.out⟩
  · have hne1 : ((n : Int) == 1) = false := by simp; omega
    have hn2 : 2 ≤ n := by omega
    obtain ⟨bA, oA, rfl, hblA, -⟩ := hA.look (k := 0) (by rw [nums_len, HX.out]; omega)
    have hid : ∀ k, k < n → ∃ i : Nat, (wk W k).1 = (i : Int) ∧ i < n ∧ (wk W k).2 = tm xs i ∧ 1 ≤ tm xs i ∧ tm xs i ≤ 1000 ∧ w1.cell? ⟨g, k, none⟩ = some (.int .i64 i) ∧ w1.cell? ⟨bA, oA + i, none⟩ = some (.int .i64 (tm xs i)) := by
      intro k hk
      have hko : k < (ord xs).length := by rw [HOL.out]; exact hk
      have hwk := HWI.out k hko
      have hm := ord_mem (List.getElem_mem hko)
      obtain ⟨i, hi⟩ := Int.eq_ofNat_of_zero_le hm.1
      have hix : i < xs.length := by omega
      obtain ⟨b2, o2, hab, -, hc2⟩ := hA.look (k := i) (by rw [nums_len]; exact hix)
      obtain ⟨rfl, rfl⟩ : bA = b2 ∧ oA = o2 := by simpa using hab
      have hxi := HM.out _ (List.getElem_mem hix)
      have htm := tm_at hix
      refine ⟨i, by rw [hwk]; exact hi, by have := HX.out; omega, by rw [hwk, hi], by rw [htm]; exact hxi.1, by rw [htm]; exact hxi.2, HOC.out k _ (by simp [nums, hko, hi]), ?_⟩
      rw [HB1.out.cell (p := ⟨bA, oA + i, none⟩) hblA, hc2]
      simp [nums, htm]
    have HID := Lib.hid hid
    obtain ⟨ia, ha1, ha2, ha3, ha4, ha5, ha6, ha7⟩ := hid 0 (by omega)
    obtain ⟨ib, hb1, hb2, hb3, hb4, hb5, hb6, hb7⟩ := hid 1 (by omega)
    have HA1 := Lib.hid ha1
    have HA3 := Lib.hid ha3
    have HB1' := Lib.hid hb1
    have HB3 := Lib.hid hb3
    have h0n : (0 : Int) < (n : Int) := by omega
    have h1n : (1 : Int) < (n : Int) := by omega
    have hbA1 : bA < w1.heap.size := Nat.lt_of_lt_of_le hblA hbs
    clear hid ha1 ha3 hb1 hb3 hn1
    go_wp2_with fail
    go_quiet (fail)
    rename_i nq
    clear ha6 hb6
    go_wp2_with fail
    go_loopw [8, 11, 12, 13] (fun v8 v11 v12 v13 wr => ∃ (k : Nat) (E : Option Addr) (d : Nat) (acc : List RowV), 2 ≤ k ∧ k ≤ n ∧ v8 = .int .i64 k ∧ v11 = .slice E acc.length d ∧ PrTo T SG EV (!e) W k w1.heap.size w1 wr v12 v13 E d acc) (fun v8 _ _ _ _ => (intOf v8).toNat)
    case atStart => exact ⟨n, none, 0, [], hn2, Nat.le_refl _, rfl, rfl, HT.out, Heads.nil _ _, ⟨[], rfl, HSG.out⟩, ⟨false, rfl, HEV.out⟩, below_draws (Below.refl _ _) _⟩
    case round =>
      obtain ⟨k, E, d, acc, hk2, hkn, rfl, rfl, hT, hh, ⟨l, rfl, hSG⟩, ⟨ev, rfl, hEV⟩, hb⟩ := hrel
      have hwz : w1.heap.size ≤ wr.heap.size := hb.size
      have hal : acc.length ≤ 24 := by
        have h := congrArg List.length hT
        rw [List.length_append, rowNums_len] at h
        omega
      have hll : l.length ≤ 12 := by
        have h := congrArg List.length hSG
        rw [List.length_append] at h
        omega
      have HH := Lib.hid hh
      have HB := Lib.hid hb
      by_cases hk4 : 4 ≤ k
      · obtain ⟨y, hky⟩ : ∃ y, y + 2 = k := ⟨k - 2, by omega⟩
        obtain ⟨z, hkz⟩ : ∃ z, z + 1 = k := ⟨k - 1, by omega⟩
        obtain ⟨iy, hy1, hy2, hy3, hy4, hy5, hy6, hy7⟩ := HID.out y (by omega)
        obtain ⟨iz, hz1, hz2, hz3, hz4, hz5, hz6, hz7⟩ := HID.out z (by omega)
        have hT2 : rowNums acc ++ ((round (!e) W y).map listT ++ (tripsT (!e) W y).map listT) = T := by rw [← tripsM_step (!e) W hk4 hky]; exact hT
        have hSG2 : l ++ (signR (!e) W y :: signsT (!e) W y) = SG := by rw [← signsT_step (!e) W hk4 hky]; exact hSG
        have hEV2 : (ev || (decide (gainOf W y = 0) || evenT W y)) = EV := by rw [← evenT_step W hk4 hky]; exact hEV
        have hgain : gainOf W y = tm xs ia + tm xs iy - 2 * tm xs ib := by
          show (wk W 0).2 + (wk W y).2 - 2 * (wk W 1).2 = _
          rw [HA3.out, HB3.out, hy3]
        have hs2 : (k : Int) - 2 = (y : Int) := by omega
        have hs1 : (k : Int) - 1 = (z : Int) := by omega
        have hw2 : IntKind.i64.wrap ((k : Int) - 2) = (y : Int) := by rw [hs2]; exact IntWalk.i64_in _ (by omega)
        have hw1 : IntKind.i64.wrap ((k : Int) - 1) = (z : Int) := by rw [hs1]; exact IntWalk.i64_in _ (by omega)
        have hwy : IntKind.i64.wrap (y : Int) = (y : Int) := IntWalk.i64_in _ (by omega)
        have hwz' : IntKind.i64.wrap (z : Int) = (z : Int) := IntWalk.i64_in _ (by omega)
        have hk3 : (3 : Int) < (k : Int) := by omega
        have hyn : (y : Int) < (n : Int) := by omega
        have hzn : (z : Int) < (n : Int) := by omega
        have hiy : (iy : Int) < (n : Int) := by omega
        have hia : (ia : Int) < (n : Int) := by omega
        have hib : (ib : Int) < (n : Int) := by omega
        have cy := (hb.cell (p := ⟨g, y, none⟩) hgl).trans hy6
        have cz := (hb.cell (p := ⟨g, z, none⟩) hgl).trans hz6
        have ty := (hb.cell (p := ⟨bA, oA + iy, none⟩) hbA1).trans hy7
        have ta := (hb.cell (p := ⟨bA, oA + ia, none⟩) hbA1).trans ha7
        have tb := (hb.cell (p := ⟨bA, oA + ib, none⟩) hbA1).trans hb7
        generalize tm xs ia = xa at *
        generalize tm xs ib = xb at *
        generalize tm xs iy = xy at *
        have hm1 : IntKind.i64.wrap (2 * xb) = 2 * xb := IntWalk.i64_in _ (by omega)
        have hm2 : IntKind.i64.wrap (xa + xy) = xa + xy := IntWalk.i64_in _ (by omega)
        have HT2 := Lib.hid hT2
        have HSG2 := Lib.hid hSG2
        have HEV2 := Lib.hid hEV2
        have HGN := Lib.hid hgain
        have HY1 := Lib.hid hy1
        have HZ1 := Lib.hid hz1
        have HKY := Lib.hid hky
        have HKZ := Lib.hid hkz
        clear hT hSG hEV hT2 hSG2 hEV2 hgain hy1 hz1 hy3 hz3 hky hkz hh hb hy6 hz6 hy7 hz7
        go_wp2_with fail
        go_quiet (fail)
        rename_i nq1
        go_wp2_with fail
        go_quiet (fail)
        rename_i nq2
        clear cy cz ty ta tb
        refine (?_ : ∀ W0 : World, Below wr.heap.size wr W0 → Exit.then _ _ _ _ W0) _ (below_draws (below_draws (Below.refl _ _) _) _)
        intro w5 hb5
        have hz5 : w1.heap.size ≤ w5.heap.size := Nat.le_trans hwz hb5.size
        have HH5 := Lib.hid (HH.out.below hb5)
        have HB5 := Lib.hid (below_then HB.out hb5 hwz)
        clear hb5
        have hcat := fun (ch : UInt8) (W : World) => cat_sign l ch (by omega) W
        have hgn := HGN.out
        by_cases hg : 0 < gainOf W y
        · have hl1 : 2 * xb < xa + xy := by omega
          have HEV3 : Hid ((ev || evenT W y) = EV) := by show _ = _; rw [← HEV2.out]; congr 1; rw [show decide (gainOf W y = 0) = false by simp; omega, Bool.false_or]
          have he1 : ((2 * xb : Int) == xa + xy) = false := by simp; omega
          have HG := Lib.hid hg
          clear hgn hg
          cases e
          · have HL : Hid ((round (!false) W y).map listT = [[min (ia : Int) (ib : Int), max (ia : Int) (ib : Int)], [(ia : Int)], [min (iy : Int) (iz : Int), max (iy : Int) (iz : Int)], [(ib : Int)]]) := by
              show _ = _
              have h := fetch_lists HGW.out (by omega) (by rw [HWL.out]; have := HKZ.out; have := HKY.out; omega) HG.out
              rw [HA1.out, HB1'.out, HY1.out, show (wk W (y + 1)).1 = (iz : Int) by rw [show y + 1 = z by have := HKY.out; have := HKZ.out; omega]; exact HZ1.out] at h
              exact h
            have HAC : Hid (rowNums acc ++ ([[min (ia : Int) (ib : Int), max (ia : Int) (ib : Int)], [(ia : Int)], [min (iy : Int) (iz : Int), max (iy : Int) (iz : Int)], [(ib : Int)]] ++ (tripsT (!false) W y).map listT) = T) := by show _ = _; rw [← HL.out]; exact HT2.out
            have HSN : Hid (l ++ [102] ++ signsT (!false) W y = SG) := by show _ = _; rw [← HSG2.out, List.append_assoc, show signR (!false) W y = 102 from if_pos (by simp [HG.out])]; rfl
            have HMX := Lib.hid (show acc.length + 4 ≤ maxLen by unfold maxLen; omega)
            have HBY := Lib.hid (show (acc.length + 4) * 24 ≤ 140737488355328 by omega)
            have HBS := Lib.hid (show w1.heap.size ≤ ((lay w5 [[min (ia : Int) (ib : Int), max (ia : Int) (ib : Int)], [(ia : Int)], [min (iy : Int) (iz : Int), max (iy : Int) (iz : Int)], [(ib : Int)]]).alloc (.cells (rowVals (rowsAt w5.heap.size [[min (ia : Int) (ib : Int), max (ia : Int) (ib : Int)], [(ia : Int)], [min (iy : Int) (iz : Int), max (iy : Int) (iz : Int)], [(ib : Int)]])).toArray 25)).heap.size by rw [laid_size]; omega)
            have HLB := Lib.hid (lay_all [[min (ia : Int) (ib : Int), max (ia : Int) (ib : Int)], [(ia : Int)], [min (iy : Int) (iz : Int), max (iy : Int) (iz : Int)], [(ib : Int)]] w5 (.cells (rowVals (rowsAt w5.heap.size [[min (ia : Int) (ib : Int), max (ia : Int) (ib : Int)], [(ia : Int)], [min (iy : Int) (iz : Int), max (iy : Int) (iz : Int)], [(ib : Int)]])).toArray 25))
            have HHA := Lib.hid ((HH5.out.below (lay_all [[min (ia : Int) (ib : Int), max (ia : Int) (ib : Int)], [(ia : Int)], [min (iy : Int) (iz : Int), max (iy : Int) (iz : Int)], [(ib : Int)]] w5 (.cells (rowVals (rowsAt w5.heap.size [[min (ia : Int) (ib : Int), max (ia : Int) (ib : Int)], [(ia : Int)], [min (iy : Int) (iz : Int), max (iy : Int) (iz : Int)], [(ib : Int)]])).toArray 25))).1)
            have HLH := Lib.hid (lay_heads' [[min (ia : Int) (ib : Int), max (ia : Int) (ib : Int)], [(ia : Int)], [min (iy : Int) (iz : Int), max (iy : Int) (iz : Int)], [(ib : Int)]] w5 (by simp) (by show 4 ≤ maxLen; decide))
            cases ev
            all_goals
              go_wp2_with (first | (go_at_call 94; refine (prPair_any _ _ _).mono ?_; rintro e' w' ⟨rfl, rfl⟩) | (at_builtin; refine wpList_append_lies _ rfl (.tmp 71) (.tmp 82) 48 rfl w1.heap.size 25 i1 (.slice none 0 0) 1 24 Try.underlying48 RI.out RZ0.out RZ1.out RZ2.out rfl (by decide) (.slice E acc.length d) acc.length (rowVals acc) rfl HHA.out ⟨w5.heap.size + 4, 0, none⟩ 4 4 (rowVals (rowsAt w5.heap.size [[min (ia : Int) (ib : Int), max (ia : Int) (ib : Int)], [(ia : Int)], [min (iy : Int) (iz : Int), max (iy : Int) (iz : Int)], [(ib : Int)]])) rfl (rowsAt_vals _ _) (lay_news' [[min (ia : Int) (ib : Int), max (ia : Int) (ib : Int)], [(ia : Int)], [min (iy : Int) (iz : Int), max (iy : Int) (iz : Int)], [(ib : Int)]] w5) (rowVals_one' _) (by decide) HMX.out HBY.out HBS.out (w5.heap.size + 4 + 1) (laid_size [[min (ia : Int) (ib : Int), max (ia : Int) (ib : Int)], [(ia : Int)], [min (iy : Int) (iz : Int), max (iy : Int) (iz : Int)], [(ib : Int)]] _ _) ?_; intro g3 c3 w3 hown3 hg3 hat3 hlt3))
              have hat3' : (Value.slice E acc.length d).ownBlock = some g3 ∨ g3 = ((lay w5 [[min (ia : Int) (ib : Int), max (ia : Int) (ib : Int)], [(ia : Int)], [min (iy : Int) (iz : Int), max (iy : Int) (iz : Int)], [(ib : Int)]]).alloc (.cells (rowVals (rowsAt w5.heap.size [[min (ia : Int) (ib : Int), max (ia : Int) (ib : Int)], [(ia : Int)], [min (iy : Int) (iz : Int), max (iy : Int) (iz : Int)], [(ib : Int)]])).toArray 25)).heap.size := by rw [laid_size]; exact hat3
              have HJ := Lib.hid (Heads.join HH5.out hz5 HLB.out HLH.out (by rw [rowsAt_len]; exact hown3) hg3 hat3')
              have HBJ := Lib.hid ((below_then HB5.out HLB.out hz5).grown hg3 HBS.out (fun kk e => (HHA.out.lt kk e).1))
              clear hown3 hg3 hat3 hat3' hlt3
              have HLR : Hid ((acc ++ rowsAt w5.heap.size [[min (ia : Int) (ib : Int), max (ia : Int) (ib : Int)], [(ia : Int)], [min (iy : Int) (iz : Int), max (iy : Int) (iz : Int)], [(ib : Int)]]).length = acc.length + 4) := by show _ = _; rw [List.length_append, rowsAt_len]; rfl
              go_wp2
              go_roundw
              case rel => exact ⟨y, some ⟨g3, 0, none⟩, c3, acc ++ rowsAt w5.heap.size [[min (ia : Int) (ib : Int), max (ia : Int) (ib : Int)], [(ia : Int)], [min (iy : Int) (iz : Int), max (iy : Int) (iz : Int)], [(ib : Int)]], by omega, by omega, by go_num, by rw [HLR.out], by rw [show rowNums (acc ++ rowsAt w5.heap.size [[min (ia : Int) (ib : Int), max (ia : Int) (ib : Int)], [(ia : Int)], [min (iy : Int) (iz : Int), max (iy : Int) (iz : Int)], [(ib : Int)]]) = rowNums acc ++ rowNums (rowsAt w5.heap.size [[min (ia : Int) (ib : Int), max (ia : Int) (ib : Int)], [(ia : Int)], [min (iy : Int) (iz : Int), max (iy : Int) (iz : Int)], [(ib : Int)]]) by simp [rowNums], rowsAt_nums, List.append_assoc]; exact HAC.out, HJ.out, ⟨l ++ [102], rfl, HSN.out⟩, ⟨_, rfl, HEV3.out⟩, HBJ.out⟩
              case measure => simp [intOf]; omega
          · have HL : Hid ((round (!true) W y).map listT = [[min (ia : Int) (iz : Int), max (ia : Int) (iz : Int)], [(ia : Int)], [min (ia : Int) (iy : Int), max (ia : Int) (iy : Int)], [(ia : Int)]]) := by
              show _ = _
              have h := escort_lists (f := !true) (y := y) HGW.out (by omega) (by rw [HWL.out]; have := HKZ.out; have := HKY.out; omega) (by simp)
              rw [HA1.out, HY1.out, show (wk W (y + 1)).1 = (iz : Int) by rw [show y + 1 = z by have := HKY.out; have := HKZ.out; omega]; exact HZ1.out] at h
              exact h
            have HAC : Hid (rowNums acc ++ ([[min (ia : Int) (iz : Int), max (ia : Int) (iz : Int)], [(ia : Int)], [min (ia : Int) (iy : Int), max (ia : Int) (iy : Int)], [(ia : Int)]] ++ (tripsT (!true) W y).map listT) = T) := by show _ = _; rw [← HL.out]; exact HT2.out
            have HSN : Hid (l ++ [101] ++ signsT (!true) W y = SG) := by show _ = _; rw [← HSG2.out, List.append_assoc, show signR (!true) W y = 101 from if_neg (by simp)]; rfl
            have HMX := Lib.hid (show acc.length + 4 ≤ maxLen by unfold maxLen; omega)
            have HBY := Lib.hid (show (acc.length + 4) * 24 ≤ 140737488355328 by omega)
            have HBS := Lib.hid (show w1.heap.size ≤ ((lay w5 [[min (ia : Int) (iz : Int), max (ia : Int) (iz : Int)], [(ia : Int)], [min (ia : Int) (iy : Int), max (ia : Int) (iy : Int)], [(ia : Int)]]).alloc (.cells (rowVals (rowsAt w5.heap.size [[min (ia : Int) (iz : Int), max (ia : Int) (iz : Int)], [(ia : Int)], [min (ia : Int) (iy : Int), max (ia : Int) (iy : Int)], [(ia : Int)]])).toArray 25)).heap.size by rw [laid_size]; omega)
            have HLB := Lib.hid (lay_all [[min (ia : Int) (iz : Int), max (ia : Int) (iz : Int)], [(ia : Int)], [min (ia : Int) (iy : Int), max (ia : Int) (iy : Int)], [(ia : Int)]] w5 (.cells (rowVals (rowsAt w5.heap.size [[min (ia : Int) (iz : Int), max (ia : Int) (iz : Int)], [(ia : Int)], [min (ia : Int) (iy : Int), max (ia : Int) (iy : Int)], [(ia : Int)]])).toArray 25))
            have HHA := Lib.hid ((HH5.out.below (lay_all [[min (ia : Int) (iz : Int), max (ia : Int) (iz : Int)], [(ia : Int)], [min (ia : Int) (iy : Int), max (ia : Int) (iy : Int)], [(ia : Int)]] w5 (.cells (rowVals (rowsAt w5.heap.size [[min (ia : Int) (iz : Int), max (ia : Int) (iz : Int)], [(ia : Int)], [min (ia : Int) (iy : Int), max (ia : Int) (iy : Int)], [(ia : Int)]])).toArray 25))).1)
            have HLH := Lib.hid (lay_heads' [[min (ia : Int) (iz : Int), max (ia : Int) (iz : Int)], [(ia : Int)], [min (ia : Int) (iy : Int), max (ia : Int) (iy : Int)], [(ia : Int)]] w5 (by simp) (by show 4 ≤ maxLen; decide))
            cases ev
            all_goals
              go_wp2_with (first | (go_at_call 94; refine (prPair_any _ _ _).mono ?_; rintro e' w' ⟨rfl, rfl⟩) | (at_builtin; refine wpList_append_lies _ rfl (.tmp 86) (.tmp 97) 48 rfl w1.heap.size 25 i1 (.slice none 0 0) 1 24 Try.underlying48 RI.out RZ0.out RZ1.out RZ2.out rfl (by decide) (.slice E acc.length d) acc.length (rowVals acc) rfl HHA.out ⟨w5.heap.size + 4, 0, none⟩ 4 4 (rowVals (rowsAt w5.heap.size [[min (ia : Int) (iz : Int), max (ia : Int) (iz : Int)], [(ia : Int)], [min (ia : Int) (iy : Int), max (ia : Int) (iy : Int)], [(ia : Int)]])) rfl (rowsAt_vals _ _) (lay_news' [[min (ia : Int) (iz : Int), max (ia : Int) (iz : Int)], [(ia : Int)], [min (ia : Int) (iy : Int), max (ia : Int) (iy : Int)], [(ia : Int)]] w5) (rowVals_one' _) (by decide) HMX.out HBY.out HBS.out (w5.heap.size + 4 + 1) (laid_size [[min (ia : Int) (iz : Int), max (ia : Int) (iz : Int)], [(ia : Int)], [min (ia : Int) (iy : Int), max (ia : Int) (iy : Int)], [(ia : Int)]] _ _) ?_; intro g3 c3 w3 hown3 hg3 hat3 hlt3))
              have hat3' : (Value.slice E acc.length d).ownBlock = some g3 ∨ g3 = ((lay w5 [[min (ia : Int) (iz : Int), max (ia : Int) (iz : Int)], [(ia : Int)], [min (ia : Int) (iy : Int), max (ia : Int) (iy : Int)], [(ia : Int)]]).alloc (.cells (rowVals (rowsAt w5.heap.size [[min (ia : Int) (iz : Int), max (ia : Int) (iz : Int)], [(ia : Int)], [min (ia : Int) (iy : Int), max (ia : Int) (iy : Int)], [(ia : Int)]])).toArray 25)).heap.size := by rw [laid_size]; exact hat3
              have HJ := Lib.hid (Heads.join HH5.out hz5 HLB.out HLH.out (by rw [rowsAt_len]; exact hown3) hg3 hat3')
              have HBJ := Lib.hid ((below_then HB5.out HLB.out hz5).grown hg3 HBS.out (fun kk e => (HHA.out.lt kk e).1))
              clear hown3 hg3 hat3 hat3' hlt3
              have HLR : Hid ((acc ++ rowsAt w5.heap.size [[min (ia : Int) (iz : Int), max (ia : Int) (iz : Int)], [(ia : Int)], [min (ia : Int) (iy : Int), max (ia : Int) (iy : Int)], [(ia : Int)]]).length = acc.length + 4) := by show _ = _; rw [List.length_append, rowsAt_len]; rfl
              go_wp2
              go_roundw
              case rel => exact ⟨y, some ⟨g3, 0, none⟩, c3, acc ++ rowsAt w5.heap.size [[min (ia : Int) (iz : Int), max (ia : Int) (iz : Int)], [(ia : Int)], [min (ia : Int) (iy : Int), max (ia : Int) (iy : Int)], [(ia : Int)]], by omega, by omega, by go_num, by rw [HLR.out], by rw [show rowNums (acc ++ rowsAt w5.heap.size [[min (ia : Int) (iz : Int), max (ia : Int) (iz : Int)], [(ia : Int)], [min (ia : Int) (iy : Int), max (ia : Int) (iy : Int)], [(ia : Int)]]) = rowNums acc ++ rowNums (rowsAt w5.heap.size [[min (ia : Int) (iz : Int), max (ia : Int) (iz : Int)], [(ia : Int)], [min (ia : Int) (iy : Int), max (ia : Int) (iy : Int)], [(ia : Int)]]) by simp [rowNums], rowsAt_nums, List.append_assoc]; exact HAC.out, HJ.out, ⟨l ++ [101], rfl, HSN.out⟩, ⟨_, rfl, HEV3.out⟩, HBJ.out⟩
              case measure => simp [intOf]; omega
        · have hl1 : ¬ 2 * xb < xa + xy := by omega
          have hl2 : decide (2 * xb < xa + xy) = false := by simp; omega
          have HG := Lib.hid hg
          clear hg
          by_cases h0 : gainOf W y = 0
          · have HEV3 : Hid ((true || evenT W y) = EV) := by show _ = _; rw [← HEV2.out, h0]; simp
            have he1 : ((2 * xb : Int) == xa + xy) = true := by simp; omega
            clear hgn h0
            have HL : Hid ((round (!e) W y).map listT = [[min (ia : Int) (iz : Int), max (ia : Int) (iz : Int)], [(ia : Int)], [min (ia : Int) (iy : Int), max (ia : Int) (iy : Int)], [(ia : Int)]]) := by
              show _ = _
              have h := escort_lists (f := !e) (y := y) HGW.out (by omega) (by rw [HWL.out]; have := HKZ.out; have := HKY.out; omega) (by rw [show decide (0 < gainOf W y) = false from decide_eq_false HG.out, Bool.and_false])
              rw [HA1.out, HY1.out, show (wk W (y + 1)).1 = (iz : Int) by rw [show y + 1 = z by have := HKY.out; have := HKZ.out; omega]; exact HZ1.out] at h
              exact h
            have HAC : Hid (rowNums acc ++ ([[min (ia : Int) (iz : Int), max (ia : Int) (iz : Int)], [(ia : Int)], [min (ia : Int) (iy : Int), max (ia : Int) (iy : Int)], [(ia : Int)]] ++ (tripsT (!e) W y).map listT) = T) := by show _ = _; rw [← HL.out]; exact HT2.out
            have HSN : Hid (l ++ [101] ++ signsT (!e) W y = SG) := by show _ = _; rw [← HSG2.out, List.append_assoc, show signR (!e) W y = 101 from (by rw [signR, show decide (0 < gainOf W y) = false from decide_eq_false HG.out, Bool.and_false]; rfl)]; rfl
            have HMX := Lib.hid (show acc.length + 4 ≤ maxLen by unfold maxLen; omega)
            have HBY := Lib.hid (show (acc.length + 4) * 24 ≤ 140737488355328 by omega)
            have HBS := Lib.hid (show w1.heap.size ≤ ((lay w5 [[min (ia : Int) (iz : Int), max (ia : Int) (iz : Int)], [(ia : Int)], [min (ia : Int) (iy : Int), max (ia : Int) (iy : Int)], [(ia : Int)]]).alloc (.cells (rowVals (rowsAt w5.heap.size [[min (ia : Int) (iz : Int), max (ia : Int) (iz : Int)], [(ia : Int)], [min (ia : Int) (iy : Int), max (ia : Int) (iy : Int)], [(ia : Int)]])).toArray 25)).heap.size by rw [laid_size]; omega)
            have HLB := Lib.hid (lay_all [[min (ia : Int) (iz : Int), max (ia : Int) (iz : Int)], [(ia : Int)], [min (ia : Int) (iy : Int), max (ia : Int) (iy : Int)], [(ia : Int)]] w5 (.cells (rowVals (rowsAt w5.heap.size [[min (ia : Int) (iz : Int), max (ia : Int) (iz : Int)], [(ia : Int)], [min (ia : Int) (iy : Int), max (ia : Int) (iy : Int)], [(ia : Int)]])).toArray 25))
            have HHA := Lib.hid ((HH5.out.below (lay_all [[min (ia : Int) (iz : Int), max (ia : Int) (iz : Int)], [(ia : Int)], [min (ia : Int) (iy : Int), max (ia : Int) (iy : Int)], [(ia : Int)]] w5 (.cells (rowVals (rowsAt w5.heap.size [[min (ia : Int) (iz : Int), max (ia : Int) (iz : Int)], [(ia : Int)], [min (ia : Int) (iy : Int), max (ia : Int) (iy : Int)], [(ia : Int)]])).toArray 25))).1)
            have HLH := Lib.hid (lay_heads' [[min (ia : Int) (iz : Int), max (ia : Int) (iz : Int)], [(ia : Int)], [min (ia : Int) (iy : Int), max (ia : Int) (iy : Int)], [(ia : Int)]] w5 (by simp) (by show 4 ≤ maxLen; decide))
            cases ev
            all_goals
              go_wp2_with (first | (go_at_call 94; refine (prPair_any _ _ _).mono ?_; rintro e' w' ⟨rfl, rfl⟩) | (at_builtin; refine wpList_append_lies _ rfl (.tmp 86) (.tmp 97) 48 rfl w1.heap.size 25 i1 (.slice none 0 0) 1 24 Try.underlying48 RI.out RZ0.out RZ1.out RZ2.out rfl (by decide) (.slice E acc.length d) acc.length (rowVals acc) rfl HHA.out ⟨w5.heap.size + 4, 0, none⟩ 4 4 (rowVals (rowsAt w5.heap.size [[min (ia : Int) (iz : Int), max (ia : Int) (iz : Int)], [(ia : Int)], [min (ia : Int) (iy : Int), max (ia : Int) (iy : Int)], [(ia : Int)]])) rfl (rowsAt_vals _ _) (lay_news' [[min (ia : Int) (iz : Int), max (ia : Int) (iz : Int)], [(ia : Int)], [min (ia : Int) (iy : Int), max (ia : Int) (iy : Int)], [(ia : Int)]] w5) (rowVals_one' _) (by decide) HMX.out HBY.out HBS.out (w5.heap.size + 4 + 1) (laid_size [[min (ia : Int) (iz : Int), max (ia : Int) (iz : Int)], [(ia : Int)], [min (ia : Int) (iy : Int), max (ia : Int) (iy : Int)], [(ia : Int)]] _ _) ?_; intro g3 c3 w3 hown3 hg3 hat3 hlt3))
              have hat3' : (Value.slice E acc.length d).ownBlock = some g3 ∨ g3 = ((lay w5 [[min (ia : Int) (iz : Int), max (ia : Int) (iz : Int)], [(ia : Int)], [min (ia : Int) (iy : Int), max (ia : Int) (iy : Int)], [(ia : Int)]]).alloc (.cells (rowVals (rowsAt w5.heap.size [[min (ia : Int) (iz : Int), max (ia : Int) (iz : Int)], [(ia : Int)], [min (ia : Int) (iy : Int), max (ia : Int) (iy : Int)], [(ia : Int)]])).toArray 25)).heap.size := by rw [laid_size]; exact hat3
              have HJ := Lib.hid (Heads.join HH5.out hz5 HLB.out HLH.out (by rw [rowsAt_len]; exact hown3) hg3 hat3')
              have HBJ := Lib.hid ((below_then HB5.out HLB.out hz5).grown hg3 HBS.out (fun kk e => (HHA.out.lt kk e).1))
              clear hown3 hg3 hat3 hat3' hlt3
              have HLR : Hid ((acc ++ rowsAt w5.heap.size [[min (ia : Int) (iz : Int), max (ia : Int) (iz : Int)], [(ia : Int)], [min (ia : Int) (iy : Int), max (ia : Int) (iy : Int)], [(ia : Int)]]).length = acc.length + 4) := by show _ = _; rw [List.length_append, rowsAt_len]; rfl
              go_wp2
              go_roundw
              case rel => exact ⟨y, some ⟨g3, 0, none⟩, c3, acc ++ rowsAt w5.heap.size [[min (ia : Int) (iz : Int), max (ia : Int) (iz : Int)], [(ia : Int)], [min (ia : Int) (iy : Int), max (ia : Int) (iy : Int)], [(ia : Int)]], by omega, by omega, by go_num, by rw [HLR.out], by rw [show rowNums (acc ++ rowsAt w5.heap.size [[min (ia : Int) (iz : Int), max (ia : Int) (iz : Int)], [(ia : Int)], [min (ia : Int) (iy : Int), max (ia : Int) (iy : Int)], [(ia : Int)]]) = rowNums acc ++ rowNums (rowsAt w5.heap.size [[min (ia : Int) (iz : Int), max (ia : Int) (iz : Int)], [(ia : Int)], [min (ia : Int) (iy : Int), max (ia : Int) (iy : Int)], [(ia : Int)]]) by simp [rowNums], rowsAt_nums, List.append_assoc]; exact HAC.out, HJ.out, ⟨l ++ [101], rfl, HSN.out⟩, ⟨_, rfl, HEV3.out⟩, HBJ.out⟩
              case measure => simp [intOf]; omega
          · have HEV3 : Hid ((ev || evenT W y) = EV) := by show _ = _; rw [← HEV2.out, show decide (gainOf W y = 0) = false by simp [h0], Bool.false_or]
            have he1 : ((2 * xb : Int) == xa + xy) = false := by simp; omega
            clear hgn h0
            have HL : Hid ((round (!e) W y).map listT = [[min (ia : Int) (iz : Int), max (ia : Int) (iz : Int)], [(ia : Int)], [min (ia : Int) (iy : Int), max (ia : Int) (iy : Int)], [(ia : Int)]]) := by
              show _ = _
              have h := escort_lists (f := !e) (y := y) HGW.out (by omega) (by rw [HWL.out]; have := HKZ.out; have := HKY.out; omega) (by rw [show decide (0 < gainOf W y) = false from decide_eq_false HG.out, Bool.and_false])
              rw [HA1.out, HY1.out, show (wk W (y + 1)).1 = (iz : Int) by rw [show y + 1 = z by have := HKY.out; have := HKZ.out; omega]; exact HZ1.out] at h
              exact h
            have HAC : Hid (rowNums acc ++ ([[min (ia : Int) (iz : Int), max (ia : Int) (iz : Int)], [(ia : Int)], [min (ia : Int) (iy : Int), max (ia : Int) (iy : Int)], [(ia : Int)]] ++ (tripsT (!e) W y).map listT) = T) := by show _ = _; rw [← HL.out]; exact HT2.out
            have HSN : Hid (l ++ [101] ++ signsT (!e) W y = SG) := by show _ = _; rw [← HSG2.out, List.append_assoc, show signR (!e) W y = 101 from (by rw [signR, show decide (0 < gainOf W y) = false from decide_eq_false HG.out, Bool.and_false]; rfl)]; rfl
            have HMX := Lib.hid (show acc.length + 4 ≤ maxLen by unfold maxLen; omega)
            have HBY := Lib.hid (show (acc.length + 4) * 24 ≤ 140737488355328 by omega)
            have HBS := Lib.hid (show w1.heap.size ≤ ((lay w5 [[min (ia : Int) (iz : Int), max (ia : Int) (iz : Int)], [(ia : Int)], [min (ia : Int) (iy : Int), max (ia : Int) (iy : Int)], [(ia : Int)]]).alloc (.cells (rowVals (rowsAt w5.heap.size [[min (ia : Int) (iz : Int), max (ia : Int) (iz : Int)], [(ia : Int)], [min (ia : Int) (iy : Int), max (ia : Int) (iy : Int)], [(ia : Int)]])).toArray 25)).heap.size by rw [laid_size]; omega)
            have HLB := Lib.hid (lay_all [[min (ia : Int) (iz : Int), max (ia : Int) (iz : Int)], [(ia : Int)], [min (ia : Int) (iy : Int), max (ia : Int) (iy : Int)], [(ia : Int)]] w5 (.cells (rowVals (rowsAt w5.heap.size [[min (ia : Int) (iz : Int), max (ia : Int) (iz : Int)], [(ia : Int)], [min (ia : Int) (iy : Int), max (ia : Int) (iy : Int)], [(ia : Int)]])).toArray 25))
            have HHA := Lib.hid ((HH5.out.below (lay_all [[min (ia : Int) (iz : Int), max (ia : Int) (iz : Int)], [(ia : Int)], [min (ia : Int) (iy : Int), max (ia : Int) (iy : Int)], [(ia : Int)]] w5 (.cells (rowVals (rowsAt w5.heap.size [[min (ia : Int) (iz : Int), max (ia : Int) (iz : Int)], [(ia : Int)], [min (ia : Int) (iy : Int), max (ia : Int) (iy : Int)], [(ia : Int)]])).toArray 25))).1)
            have HLH := Lib.hid (lay_heads' [[min (ia : Int) (iz : Int), max (ia : Int) (iz : Int)], [(ia : Int)], [min (ia : Int) (iy : Int), max (ia : Int) (iy : Int)], [(ia : Int)]] w5 (by simp) (by show 4 ≤ maxLen; decide))
            cases ev
            all_goals
              go_wp2_with (first | (go_at_call 94; refine (prPair_any _ _ _).mono ?_; rintro e' w' ⟨rfl, rfl⟩) | (at_builtin; refine wpList_append_lies _ rfl (.tmp 86) (.tmp 97) 48 rfl w1.heap.size 25 i1 (.slice none 0 0) 1 24 Try.underlying48 RI.out RZ0.out RZ1.out RZ2.out rfl (by decide) (.slice E acc.length d) acc.length (rowVals acc) rfl HHA.out ⟨w5.heap.size + 4, 0, none⟩ 4 4 (rowVals (rowsAt w5.heap.size [[min (ia : Int) (iz : Int), max (ia : Int) (iz : Int)], [(ia : Int)], [min (ia : Int) (iy : Int), max (ia : Int) (iy : Int)], [(ia : Int)]])) rfl (rowsAt_vals _ _) (lay_news' [[min (ia : Int) (iz : Int), max (ia : Int) (iz : Int)], [(ia : Int)], [min (ia : Int) (iy : Int), max (ia : Int) (iy : Int)], [(ia : Int)]] w5) (rowVals_one' _) (by decide) HMX.out HBY.out HBS.out (w5.heap.size + 4 + 1) (laid_size [[min (ia : Int) (iz : Int), max (ia : Int) (iz : Int)], [(ia : Int)], [min (ia : Int) (iy : Int), max (ia : Int) (iy : Int)], [(ia : Int)]] _ _) ?_; intro g3 c3 w3 hown3 hg3 hat3 hlt3))
              have hat3' : (Value.slice E acc.length d).ownBlock = some g3 ∨ g3 = ((lay w5 [[min (ia : Int) (iz : Int), max (ia : Int) (iz : Int)], [(ia : Int)], [min (ia : Int) (iy : Int), max (ia : Int) (iy : Int)], [(ia : Int)]]).alloc (.cells (rowVals (rowsAt w5.heap.size [[min (ia : Int) (iz : Int), max (ia : Int) (iz : Int)], [(ia : Int)], [min (ia : Int) (iy : Int), max (ia : Int) (iy : Int)], [(ia : Int)]])).toArray 25)).heap.size := by rw [laid_size]; exact hat3
              have HJ := Lib.hid (Heads.join HH5.out hz5 HLB.out HLH.out (by rw [rowsAt_len]; exact hown3) hg3 hat3')
              have HBJ := Lib.hid ((below_then HB5.out HLB.out hz5).grown hg3 HBS.out (fun kk e => (HHA.out.lt kk e).1))
              clear hown3 hg3 hat3 hat3' hlt3
              have HLR : Hid ((acc ++ rowsAt w5.heap.size [[min (ia : Int) (iz : Int), max (ia : Int) (iz : Int)], [(ia : Int)], [min (ia : Int) (iy : Int), max (ia : Int) (iy : Int)], [(ia : Int)]]).length = acc.length + 4) := by show _ = _; rw [List.length_append, rowsAt_len]; rfl
              go_wp2
              go_roundw
              case rel => exact ⟨y, some ⟨g3, 0, none⟩, c3, acc ++ rowsAt w5.heap.size [[min (ia : Int) (iz : Int), max (ia : Int) (iz : Int)], [(ia : Int)], [min (ia : Int) (iy : Int), max (ia : Int) (iy : Int)], [(ia : Int)]], by omega, by omega, by go_num, by rw [HLR.out], by rw [show rowNums (acc ++ rowsAt w5.heap.size [[min (ia : Int) (iz : Int), max (ia : Int) (iz : Int)], [(ia : Int)], [min (ia : Int) (iy : Int), max (ia : Int) (iy : Int)], [(ia : Int)]]) = rowNums acc ++ rowNums (rowsAt w5.heap.size [[min (ia : Int) (iz : Int), max (ia : Int) (iz : Int)], [(ia : Int)], [min (ia : Int) (iy : Int), max (ia : Int) (iy : Int)], [(ia : Int)]]) by simp [rowNums], rowsAt_nums, List.append_assoc]; exact HAC.out, HJ.out, ⟨l ++ [101], rfl, HSN.out⟩, ⟨_, rfl, HEV3.out⟩, HBJ.out⟩
              case measure => simp [intOf]; omega
      · have hk3 : ¬ (3 : Int) < (k : Int) := by omega
        have hgt : decide ((3 : Int) < (k : Int)) = false := by simp; omega
        obtain ⟨iy, hy1, hy2, hy3, hy4, hy5, hy6, hy7⟩ := HID.out 0 (by omega)
        have hls : listT (wk W 0, wk W 1) = [min (ia : Int) (ib : Int), max (ia : Int) (ib : Int)] := by
          rw [list_pair (HGW.out.two 0 1 (by omega) (by rw [HWL.out]; omega)).2, HA1.out, HB1'.out]
        have HLS := Lib.hid hls
        have HTT := Lib.hid hT
        have HSS := Lib.hid hSG
        have HEE := Lib.hid hEV
        clear hT hSG hEV hh hb hls hy1 hy2 hy3 hy4 hy5 hy6 hy7
        have HMX := Lib.hid (show acc.length + 1 ≤ maxLen by unfold maxLen; omega)
        have HBY := Lib.hid (show (acc.length + 1) * 24 ≤ 140737488355328 by omega)
        have HBS := Lib.hid (show w1.heap.size ≤ ((lay wr [[min (ia : Int) (ib : Int), max (ia : Int) (ib : Int)]]).alloc (.cells (rowVals (rowsAt wr.heap.size [[min (ia : Int) (ib : Int), max (ia : Int) (ib : Int)]])).toArray 25)).heap.size by rw [laid_size]; omega)
        have HLB := Lib.hid (lay_all [[min (ia : Int) (ib : Int), max (ia : Int) (ib : Int)]] wr (.cells (rowVals (rowsAt wr.heap.size [[min (ia : Int) (ib : Int), max (ia : Int) (ib : Int)]])).toArray 25))
        have HHA := Lib.hid ((HH.out.below (lay_all [[min (ia : Int) (ib : Int), max (ia : Int) (ib : Int)]] wr (.cells (rowVals (rowsAt wr.heap.size [[min (ia : Int) (ib : Int), max (ia : Int) (ib : Int)]])).toArray 25))).1)
        have HLH := Lib.hid (lay_heads' [[min (ia : Int) (ib : Int), max (ia : Int) (ib : Int)]] wr (by simp) (by show 1 ≤ maxLen; decide))
        by_cases hk2' : k = 2
        · subst hk2'
          have HAC : Hid (rowNums acc ++ [[min (ia : Int) (ib : Int), max (ia : Int) (ib : Int)]] = T) := by show _ = _; rw [← HTT.out, show (tripsT (!e) W 2).map listT = [listT (wk W 0, wk W 1)] from rfl, HLS.out]
          have HSN : Hid (l = SG) := by show _ = _; rw [← HSS.out, show signsT (!e) W 2 = [] from rfl, List.append_nil]
          have HEN : Hid (ev = EV) := by show _ = _; rw [← HEE.out, show evenT W 2 = false from rfl, Bool.or_false]
          clear HTT HSS HEE
          go_wp2_with (first | (go_at_call 94; refine (prPair_any _ _ _).mono ?_; rintro e' w' ⟨rfl, rfl⟩) | (at_builtin; refine wpList_append_lies _ rfl (.tmp 103) (.tmp 107) 48 rfl w1.heap.size 25 i1 (.slice none 0 0) 1 24 Try.underlying48 RI.out RZ0.out RZ1.out RZ2.out rfl (by decide) (.slice E acc.length d) acc.length (rowVals acc) rfl HHA.out ⟨wr.heap.size + 1, 0, none⟩ 1 1 (rowVals (rowsAt wr.heap.size [[min (ia : Int) (ib : Int), max (ia : Int) (ib : Int)]])) rfl (rowsAt_vals _ _) (lay_news' [[min (ia : Int) (ib : Int), max (ia : Int) (ib : Int)]] wr) (rowVals_one' _) (by decide) HMX.out HBY.out HBS.out (wr.heap.size + 1 + 1) (laid_size [[min (ia : Int) (ib : Int), max (ia : Int) (ib : Int)]] _ _) ?_; intro g3 c3 w3 hown3 hg3 hat3 hlt3))
          have hat3' : (Value.slice E acc.length d).ownBlock = some g3 ∨ g3 = ((lay wr [[min (ia : Int) (ib : Int), max (ia : Int) (ib : Int)]]).alloc (.cells (rowVals (rowsAt wr.heap.size [[min (ia : Int) (ib : Int), max (ia : Int) (ib : Int)]])).toArray 25)).heap.size := by rw [laid_size]; exact hat3
          have HJ := Lib.hid (Heads.join HH.out hwz HLB.out HLH.out (by rw [rowsAt_len]; exact hown3) hg3 hat3')
          have HBJ := Lib.hid ((below_then HB.out HLB.out hwz).grown hg3 HBS.out (fun kk e => (HHA.out.lt kk e).1))
          clear hown3 hg3 hat3 hat3' hlt3
          have HLR : Hid ((acc ++ rowsAt wr.heap.size [[min (ia : Int) (ib : Int), max (ia : Int) (ib : Int)]]).length = acc.length + 1) := by show _ = _; rw [List.length_append, rowsAt_len]; rfl
          go_wp2
          refine bodyPost_ret (v := .tuple #[.slice (some ⟨g3, 0, none⟩) (acc.length + 1) c3, .string ⟨l.toArray⟩, .bool ev]) (by simp [results, Try.results80, go_sem]) rfl ?_
          exact ⟨_, _, acc ++ rowsAt wr.heap.size [[min (ia : Int) (ib : Int), max (ia : Int) (ib : Int)]], by rw [HLR.out, HSN.out, HEN.out], by rw [show rowNums (acc ++ rowsAt wr.heap.size [[min (ia : Int) (ib : Int), max (ia : Int) (ib : Int)]]) = rowNums acc ++ rowNums (rowsAt wr.heap.size [[min (ia : Int) (ib : Int), max (ia : Int) (ib : Int)]]) by simp [rowNums], rowsAt_nums]; exact HAC.out, HJ.out.raise hbs, below_then HB1.out HBJ.out hbs⟩
        · obtain rfl : k = 3 := by omega
          obtain ⟨ic, hc1, hc2, hc3, hc4, hc5, hc6, hc7⟩ := HID.out 2 (by omega)
          have hls2 : listT (wk W 0, wk W 2) = [min (ia : Int) (ic : Int), max (ia : Int) (ic : Int)] := by
            rw [list_pair (HGW.out.two 0 2 (by omega) (by rw [HWL.out]; omega)).2, HA1.out, hc1]
          have HAC : Hid (rowNums acc ++ [[min (ia : Int) (ib : Int), max (ia : Int) (ib : Int)]] ++ [[(ia : Int)], [min (ia : Int) (ic : Int), max (ia : Int) (ic : Int)]] = T) := by
            show _ = _
            rw [← HTT.out, show (tripsT (!e) W 3).map listT = [listT (wk W 0, wk W 1), listT (wk W 0, wk W 0), listT (wk W 0, wk W 2)] from rfl, HLS.out, list_alone, hls2, HA1.out, List.append_assoc]
            rfl
          have HSN : Hid (l = SG) := by show _ = _; rw [← HSS.out, show signsT (!e) W 3 = [] from rfl, List.append_nil]
          have HEN : Hid (ev = EV) := by show _ = _; rw [← HEE.out, show evenT W 3 = false from rfl, Bool.or_false]
          have HC6 := Lib.hid hc6
          have h2n : (2 : Int) < (n : Int) := by omega
          clear HTT HSS HEE hls2 hc1 hc2 hc3 hc4 hc5 hc6 hc7 hk2'
          go_upto_region 19 with (first | (go_at_call 94; refine (prPair_any _ _ _).mono ?_; rintro e' w' ⟨rfl, rfl⟩) | (at_builtin; refine wpList_append_lies _ rfl (.tmp 103) (.tmp 107) 48 rfl w1.heap.size 25 i1 (.slice none 0 0) 1 24 Try.underlying48 RI.out RZ0.out RZ1.out RZ2.out rfl (by decide) (.slice E acc.length d) acc.length (rowVals acc) rfl HHA.out ⟨wr.heap.size + 1, 0, none⟩ 1 1 (rowVals (rowsAt wr.heap.size [[min (ia : Int) (ib : Int), max (ia : Int) (ib : Int)]])) rfl (rowsAt_vals _ _) (lay_news' [[min (ia : Int) (ib : Int), max (ia : Int) (ib : Int)]] wr) (rowVals_one' _) (by decide) HMX.out HBY.out HBS.out (wr.heap.size + 1 + 1) (laid_size [[min (ia : Int) (ib : Int), max (ia : Int) (ib : Int)]] _ _) ?_; intro g3 c3 w3 hown3 hg3 hat3 hlt3))
          have hat3' : (Value.slice E acc.length d).ownBlock = some g3 ∨ g3 = ((lay wr [[min (ia : Int) (ib : Int), max (ia : Int) (ib : Int)]]).alloc (.cells (rowVals (rowsAt wr.heap.size [[min (ia : Int) (ib : Int), max (ia : Int) (ib : Int)]])).toArray 25)).heap.size := by rw [laid_size]; exact hat3
          have HJ := Lib.hid (Heads.join HH.out hwz HLB.out HLH.out (by rw [rowsAt_len]; exact hown3) hg3 hat3')
          have HBJ := Lib.hid ((below_then HB.out HLB.out hwz).grown hg3 HBS.out (fun kk e => (HHA.out.lt kk e).1))
          clear hown3 hg3 hat3 hat3' hlt3
          have HLR : Hid ((acc ++ rowsAt wr.heap.size [[min (ia : Int) (ib : Int), max (ia : Int) (ib : Int)]]).length = acc.length + 1) := by show _ = _; rw [List.length_append, rowsAt_len]; rfl
          have hz3 : w1.heap.size ≤ w3.heap.size := HBJ.out.size
          have HMX2 := Lib.hid (show acc.length + 1 + 2 ≤ maxLen by unfold maxLen; omega)
          have HBY2 := Lib.hid (show (acc.length + 1 + 2) * 24 ≤ 140737488355328 by omega)
          have HBS2 := Lib.hid (show w1.heap.size ≤ ((lay w3 [[(ia : Int)], [min (ia : Int) (ic : Int), max (ia : Int) (ic : Int)]]).alloc (.cells (rowVals (rowsAt w3.heap.size [[(ia : Int)], [min (ia : Int) (ic : Int), max (ia : Int) (ic : Int)]])).toArray 25)).heap.size by rw [laid_size]; omega)
          have HLB2 := Lib.hid (lay_all [[(ia : Int)], [min (ia : Int) (ic : Int), max (ia : Int) (ic : Int)]] w3 (.cells (rowVals (rowsAt w3.heap.size [[(ia : Int)], [min (ia : Int) (ic : Int), max (ia : Int) (ic : Int)]])).toArray 25))
          have hha2 := (HJ.out.below (lay_all [[(ia : Int)], [min (ia : Int) (ic : Int), max (ia : Int) (ic : Int)]] w3 (.cells (rowVals (rowsAt w3.heap.size [[(ia : Int)], [min (ia : Int) (ic : Int), max (ia : Int) (ic : Int)]])).toArray 25))).1
          rw [HLR.out] at hha2
          have HHA2 := Lib.hid hha2
          have HLH2 := Lib.hid (lay_heads' [[(ia : Int)], [min (ia : Int) (ic : Int), max (ia : Int) (ic : Int)]] w3 (by simp) (by show 2 ≤ maxLen; decide))
          have hoc := (HBJ.out.cell (p := ⟨g, 2, none⟩) hgl).trans HC6.out
          have hol := (w3.cell?_alloc_lt (.cells #[.int .i64 ia] 3) ⟨g, 2, none⟩ (Nat.lt_of_lt_of_le hgl hz3)).trans hoc
          clear hha2 hoc
          go_wp2_with (first | (go_at_call 94; refine (prPair_any _ _ _).mono ?_; rintro e' w' ⟨rfl, rfl⟩) | (at_builtin; refine wpList_append_lies _ rfl (.tmp 111) (.tmp 119) 48 rfl w1.heap.size 25 i1 (.slice none 0 0) 1 24 Try.underlying48 RI.out RZ0.out RZ1.out RZ2.out rfl (by decide) (.slice (some ⟨g3, 0, none⟩) (acc.length + 1) c3) (acc.length + 1) (rowVals (acc ++ rowsAt wr.heap.size [[min (ia : Int) (ib : Int), max (ia : Int) (ib : Int)]])) rfl HHA2.out ⟨w3.heap.size + 2, 0, none⟩ 2 2 (rowVals (rowsAt w3.heap.size [[(ia : Int)], [min (ia : Int) (ic : Int), max (ia : Int) (ic : Int)]])) rfl (rowsAt_vals _ _) (lay_news' [[(ia : Int)], [min (ia : Int) (ic : Int), max (ia : Int) (ic : Int)]] w3) (rowVals_one' _) (by decide) HMX2.out HBY2.out HBS2.out (w3.heap.size + 2 + 1) (laid_size [[(ia : Int)], [min (ia : Int) (ic : Int), max (ia : Int) (ic : Int)]] _ _) ?_; intro g4 c4 w4 hown4 hg4 hat4 hlt4))
          have hat4' : (Value.slice (some ⟨g3, 0, none⟩) (acc ++ rowsAt wr.heap.size [[min (ia : Int) (ib : Int), max (ia : Int) (ib : Int)]]).length c3).ownBlock = some g4 ∨ g4 = ((lay w3 [[(ia : Int)], [min (ia : Int) (ic : Int), max (ia : Int) (ic : Int)]]).alloc (.cells (rowVals (rowsAt w3.heap.size [[(ia : Int)], [min (ia : Int) (ic : Int), max (ia : Int) (ic : Int)]])).toArray 25)).heap.size := by rw [laid_size]; exact hat4
          have HJ4 := Lib.hid (Heads.join HJ.out hz3 HLB2.out HLH2.out (by rw [rowsAt_len, HLR.out]; exact hown4) hg4 hat4')
          have HBJ4 := Lib.hid ((below_then HBJ.out HLB2.out hz3).grown hg4 HBS2.out (fun kk e => (HHA2.out.lt kk e).1))
          have HLR4 : Hid ((acc ++ rowsAt wr.heap.size [[min (ia : Int) (ib : Int), max (ia : Int) (ib : Int)]] ++ rowsAt w3.heap.size [[(ia : Int)], [min (ia : Int) (ic : Int), max (ia : Int) (ic : Int)]]).length = acc.length + 1 + 2) := by show _ = _; rw [List.length_append, HLR.out, rowsAt_len]; rfl
          clear hown4 hg4 hat4 hat4' hlt4
          go_wp2
          refine bodyPost_ret (v := .tuple #[.slice (some ⟨g4, 0, none⟩) (acc.length + 1 + 2) c4, .string ⟨l.toArray⟩, .bool ev]) (by simp [results, Try.results80, go_sem]) rfl ?_
          exact ⟨_, _, acc ++ rowsAt wr.heap.size [[min (ia : Int) (ib : Int), max (ia : Int) (ib : Int)]] ++ rowsAt w3.heap.size [[(ia : Int)], [min (ia : Int) (ic : Int), max (ia : Int) (ic : Int)]], by rw [HLR4.out, HSN.out, HEN.out], by rw [show rowNums (acc ++ rowsAt wr.heap.size [[min (ia : Int) (ib : Int), max (ia : Int) (ib : Int)]] ++ rowsAt w3.heap.size [[(ia : Int)], [min (ia : Int) (ic : Int), max (ia : Int) (ic : Int)]]) = rowNums acc ++ rowNums (rowsAt wr.heap.size [[min (ia : Int) (ib : Int), max (ia : Int) (ib : Int)]]) ++ rowNums (rowsAt w3.heap.size [[(ia : Int)], [min (ia : Int) (ic : Int), max (ia : Int) (ic : Int)]]) by simp [rowNums], rowsAt_nums, rowsAt_nums]; exact HAC.out, HJ4.out.raise hbs, below_then HB1.out HBJ4.out hbs⟩
end Go.Proofs.Ytgojakcepbdajaa

namespace Go.Proofs.Ytgojakcepbdajaa
open Go.RowKit

/-- The times of trips together. -/
def sumSlow (xs : List Int) (ls : List (List Int)) : Int := (ls.map (slowOf xs)).sum
theorem sumSlow_next {xs : List Int} {ls : List (List Int)} {k : Nat} (hk : k < ls.length) : sumSlow xs (ls.take (k + 1)) = sumSlow xs (ls.take k) + slowOf xs ls[k] := by
  rw [sumSlow, sumSlow, List.take_succ_eq_append_getElem hk, List.map_append, List.sum_append]
  simp
def AllTrips (n : Nat) (ls : List (List Int)) : Prop := ∀ k (h : k < ls.length), StepsTo ls[k] (n - 1) ls[k].length
theorem slowOf_bdG {xs : List Int} (h : ∀ y ∈ xs, 1 ≤ y ∧ y ≤ 1000) (l : List Int) : 0 ≤ slowOf xs l ∧ slowOf xs l ≤ 1000 := by
  constructor
  · exact ((slowOf_le xs l _).1 (Int.le_refl _)).1
  · rw [slowOf_le]
    refine ⟨by omega, fun x _ => ?_⟩
    by_cases hx : x.toNat < xs.length
    · have h2 := h _ (List.getElem_mem hx)
      simp [hx]
      omega
    · simp [hx]
theorem sumSlow_bdG {xs : List Int} (h : ∀ y ∈ xs, 1 ≤ y ∧ y ≤ 1000) (ls : List (List Int)) : 0 ≤ sumSlow xs ls ∧ sumSlow xs ls ≤ 1000 * ls.length := by
  induction ls with
  | nil => simp [sumSlow]
  | cons l ls ih =>
    have := slowOf_bdG h l
    simp only [sumSlow, List.map_cons, List.sum_cons, List.length_cons] at ih ⊢
    omega

set_option maxHeartbeats 800000 in
theorem paSumG_any (A D : Option Addr) (n c q z : Nat) (xs : List Int) (rs : List RowV) (s : Int) (w : World) (hA : Holds w A (nums xs)) (hD : Grid w D rs) (hx : xs.length = n) (hz : rs.length = q) (hn : n ≤ 9223372036854775807) (hq : q ≤ 40) (hp : ∀ y ∈ xs, 1 ≤ y ∧ y ≤ 1000) (ht : AllTrips n (rowNums rs)) :
    Calls Try.prog 95 #[.agg #[.slice A n c, .int .i64 s], .slice D q z] w fun e w' => e = .returned (.int .i64 (sumSlow xs (rowNums rs))) ∧ Below w.heap.size w w' := by
  have HX := Lib.hid hx
  have HZ := Lib.hid hz
  have HP := Lib.hid hp
  have HT := Lib.hid ht
  have HLS := Lib.hid (rowNums_len rs)
  have h0 := Whole.fresh w 103 #[.slice A n c, .int .i64 s]
  have hbw := below1 w (.cells #[.slice A n c, .int .i64 s] 103)
  have HBW := Lib.hid hbw
  have H0 := Lib.hid h0
  clear hx hz hp ht hbw h0
  go_enter Try.func95, Try.ntmps95
  go_wp2
  go_loopw [5, 10] (fun v i wr => ∃ k : Nat, k ≤ q ∧ i = .int .i64 k ∧ v = .int .i64 (sumSlow xs ((rowNums rs).take k)) ∧ Whole wr w.heap.size 103 #[.slice A n c, .int .i64 s] ∧ Below w.heap.size w wr) (fun _ i _ => q - (intOf i).toNat)
  case atStart => exact ⟨0, Nat.zero_le _, rfl, rfl, H0.out, HBW.out⟩
  case round =>
    obtain ⟨k, hk, rfl, rfl, h0, hb⟩ := hrel
    clear H0 HBW
    obtain ⟨c0, c1, -, -⟩ := h0.two
    by_cases hlt : k < q
    · have hkr : k < rs.length := by have := HZ.out; omega
      have hkl : k < (rowNums rs).length := by have := HLS.out; omega
      obtain ⟨b1, o1, rfl, hbl1, hc, hok⟩ := (hD.below hb).look hkr
      have hst := HT.out k hkl
      rw [rowNums_get hkr] at hst
      have hA1 := hA.below hb
      have hs0 := sumSlow_bdG HP.out ((rowNums rs).take k)
      have hs1 := slowOf_bdG HP.out rs[k].xs
      have hlen : ((rowNums rs).take k).length ≤ 40 := by have := HLS.out; have := HZ.out; simp; omega
      have hs2 := hs0.1
      have hs3 : sumSlow xs ((rowNums rs).take k) ≤ 40000 := by omega
      have hs4 := hs1.1
      have hs5 := hs1.2
      have HNX := Lib.hid (show sumSlow xs ((rowNums rs).take (k + 1)) = sumSlow xs ((rowNums rs).take k) + slowOf xs rs[k].xs by rw [sumSlow_next hkl, rowNums_get hkr])
      have HST := Lib.hid hst
      clear hs0 hs1 hlen hst
      go_wp2_with fail
      refine (paTime_any A _ n c _ _ xs _ s _ hA1 HX.out hok.1 hok.2.1 hok.2.2 hn HST.out).mono ?_
      rintro e w1 ⟨rfl, hb1⟩
      have h1 := h0.below hb1
      have hbb := below_then hb hb1 hb.size
      clear hb hb1 h0 hA1 hok c0 c1
      go_wp2
      go_roundw
      case rel => exact ⟨k + 1, by omega, by go_num, by rw [HNX.out], h1, hbb⟩
      case measure => simp [intOf]; omega
    · have hkn : k = q := by omega
      subst hkn
      have HTK := Lib.hid (List.take_of_length_le (l := rowNums rs) (i := k) (by have := HLS.out; have := HZ.out; omega))
      clear c0 c1
      go_wp2
      go_ret
      exact ⟨ret_of (by rw [HTK.out]; rfl), hb⟩


theorem slow_list {xs : List Int} {t : Pt} (h : OkT xs t) (hm : ∀ y ∈ xs, 1 ≤ y ∧ y ≤ 1000) : slowOf xs (listT t) = t.2.2 := by
  obtain ⟨⟨a1, a2, a3⟩, ⟨b1, b2, b3⟩, h3⟩ := h
  have g : ∀ i : Int, 0 ≤ i → i < xs.length → 1 ≤ tm xs i := fun i h1 h2 => by
    have hx : i.toNat < xs.length := by omega
    have := hm _ (List.getElem_mem hx)
    simp only [tm, List.getD_eq_getElem?_getD, List.getElem?_eq_getElem hx, Option.getD_some]
    omega
  have ga := g _ a2 a3
  have gb := g _ b2 b3
  have hf : ∀ l : List Int, slowOf xs l = (l.map (tm xs)).foldl max 0 := fun l => rfl
  rw [hf]
  rcases h3 with h3 | ⟨h3, h4⟩
  · have : listT t = [t.2.1] := by
      obtain ⟨t1, t2⟩ := t
      obtain rfl : t1 = t2 := h3
      simp [listT, isAlone]
    rw [this]
    show max 0 (tm xs t.2.1) = _
    omega
  · have hne : ¬ t.1 = t.2 := fun e => h3 (by rw [e])
    have : listT t = [min t.1.1 t.2.1, max t.1.1 t.2.1] := by simp [listT, isAlone, hne]
    rw [this]
    show max (max 0 (tm xs (min t.1.1 t.2.1))) (tm xs (max t.1.1 t.2.1)) = _
    rcases Int.le_total t.1.1 t.2.1 with h | h
    · rw [Int.min_eq_left h, Int.max_eq_right h]
      omega
    · rw [Int.min_eq_right h, Int.max_eq_left h]
      omega
theorem sum_trips {xs : List Int} {ts : List Pt} (h : ∀ t ∈ ts, OkT xs t) (hm : ∀ y ∈ xs, 1 ≤ y ∧ y ≤ 1000) : sumSlow xs (ts.map listT) = timeT ts := by
  rw [sumSlow, timeT, List.map_map]
  congr 1
  exact List.map_congr_left fun t ht => slow_list (h t ht) hm
theorem all_trips {xs : List Int} {n : Nat} {ts : List Pt} (hx : xs.length = n) (h : ∀ t ∈ ts, OkT xs t) : AllTrips n (ts.map listT) := by
  intro k hk
  rw [List.getElem_map]
  have := (h _ (List.getElem_mem (by simpa using hk : k < ts.length))).steps
  rw [hx] at this
  exact this

set_option maxHeartbeats 1600000 in
theorem prSum_any (A D : Option Addr) (n c q z : Nat) (xs : List Int) (rs : List RowV) (w : World) (hA : Holds w A (nums xs)) (hD : Grid w D rs) (hx : xs.length = n) (hz : rs.length = q) (hn : n ≤ 9223372036854775807) (hq : q ≤ 40) (hp : ∀ y ∈ xs, 1 ≤ y ∧ y ≤ 1000) (ht : AllTrips n (rowNums rs)) :
    Calls Try.prog 81 #[.slice A n c, .slice D q z] w fun e w' => e = .returned (.int .i64 (sumSlow xs (rowNums rs))) ∧ Below w.heap.size w w' := by
  have HX := Lib.hid hx
  have HZ := Lib.hid hz
  have HP := Lib.hid hp
  have HT := Lib.hid ht
  clear hx hz hp ht
  go_enter Try.func81, Try.ntmps81
  go_wp2_with fail
  refine (paSumG_any A D n c q z xs rs 0 _ hA hD HX.out HZ.out hn hq HP.out HT.out).mono ?_
  rintro e w1 ⟨rfl, hb⟩
  go_wp2
  go_ret
  exact ⟨rfl, hb⟩
end Go.Proofs.Ytgojakcepbdajaa

namespace Go.Proofs.Ytgojakcepbdajaa
open Go.RowKit

theorem own_holdsK {w : World} {base size : Nat} {e : TypeId} {T : Option Addr} {n c : Nat} {xs : List Value} (h : w.ownsRow base e size (.slice T n c) n xs) : Holds w T xs := by
  obtain ⟨hl, ⟨-, hn⟩ | ⟨g, cap, cur, hv, -, hh, h1, h2, h3, h4⟩⟩ := h
  · subst hn
    exact .inl (List.eq_nil_of_length_eq_zero (by simpa using hl))
  · obtain ⟨rfl, -⟩ : T = some ⟨g, 0, none⟩ ∧ c = cap := by simpa using hv
    have hw : Whole w g e cur := hh
    refine .inr ⟨g, 0, rfl, hw.lt, fun j u hu => ?_⟩
    have hj : j < xs.length := (List.getElem?_eq_some_iff.1 hu).1
    rw [Nat.zero_add, hw.cell j, ← hu]
    rw [hl] at hj
    have := congrArg (fun l : List Value => l[j]?) h4
    simpa [List.getElem?_take, hj] using this
theorem prTs_time_no {f : Bool} {xs : List Int} (h : prOk xs = false) : timeT (prTs f xs) = 0 := by rw [prTs_no h]; rfl
theorem prTs_bd (f : Bool) (xs : List Int) : 0 ≤ timeT (prTs f xs) ∧ timeT (prTs f xs) ≤ 24000 := by
  have h1 := timeT_bd (ts := prTs f xs) prTs_mild
  have h2 := prTs_len f xs
  omega
theorem prTrips_at (A : Option Addr) (n c : Nat) (xs : List Int) (e : Bool) (w : World) (hA : Holds w A (nums xs)) (hx : xs.length = n) (hp : prOk xs = true) :
    Calls Try.prog 80 #[.slice A n c, .bool e] w (PrPost ((prTs (!e) xs).map listT) (signsT (!e) (mk xs (ord xs)) xs.length) (evenT (mk xs (ord xs)) xs.length) w) := by
  have h := prTrips_any A n c xs e w hA hx hp
  rw [prTs_yes hp, hx]
  exact h
theorem prSum_at (A D : Option Addr) (n c z : Nat) (xs : List Int) (f : Bool) (rs : List RowV) (w : World) (hA : Holds w A (nums xs)) (hD : Grid w D rs) (hx : xs.length = n) (hp : prOk xs = true) (hr : rowNums rs = (prTs f xs).map listT) :
    Calls Try.prog 81 #[.slice A n c, .slice D rs.length z] w fun e w' => e = .returned (.int .i64 (timeT (prTs f xs))) ∧ Below w.heap.size w w' := by
  have hm := (prOk_parts hp).2.2
  have hl : rs.length ≤ 24 := by
    have h1 := congrArg List.length hr
    rw [rowNums_len, List.length_map] at h1
    have := prTs_len f xs
    omega
  have h := prSum_any A D n c rs.length z xs rs w hA hD hx rfl (by have := (prOk_parts hp).2.1; omega) (by omega) hm (by rw [hr]; exact all_trips hx prTs_ok)
  rw [hr, sum_trips prTs_ok hm] at h
  exact h

set_option maxHeartbeats 1600000 in
theorem prTime_any (A : Option Addr) (n c : Nat) (xs : List Int) (w : World) (hA : Holds w A (nums xs)) (hx : xs.length = n) (hp : prOk xs = true) :
    Calls Try.prog 62 #[.slice A n c] w fun e w' => e = .returned (.int .i64 (timeT (prTs true xs))) ∧ Below w.heap.size w w' := by
  have HX := Lib.hid hx
  have HP := Lib.hid hp
  clear hx hp
  go_enter Try.func62, Try.ntmps62
  go_wp2_with fail
  refine (prTrips_at A n c xs false _ hA HX.out HP.out).mono ?_
  rintro e w1 ⟨E, d, rs, rfl, hr, hh, hb⟩
  have HR := Lib.hid hr
  have hG := hh.free.grid
  have HB := Lib.hid hb
  have hA1 := hA.below hb
  clear hr hh hb
  go_wp2_with fail
  refine (prSum_at A E n c d xs true rs _ hA1 hG HX.out HP.out HR.out).mono ?_
  rintro e w2 ⟨rfl, hb⟩
  have HB2 := Lib.hid (below_then HB.out hb HB.out.size)
  clear hb hG
  go_wp2
  go_ret
  exact ⟨rfl, HB2.out⟩

set_option maxHeartbeats 1600000 in
theorem implPairTime_any (A : Option Addr) (n c : Nat) (xs : List Int) (w : World) (hA : Holds w A (nums xs)) (hx : xs.length = n) (hn : n ≤ 9223372036854775807) :
    Calls Try.prog 64 #[.slice A n c] w fun e w' => e = .returned (.tuple #[.int .i64 (timeT (prTs true xs)), .bool (prOk xs)]) ∧ Below w.heap.size w w' := by
  have HX := Lib.hid hx
  clear hx
  go_enter Try.func64, Try.ntmps64
  go_wp2_with fail
  refine (pairTrips_any A n c xs true _ hA HX.out hn).mono ?_
  rintro e w1 ⟨E, d, rfl, hown, hb⟩
  have hl := prTs_len true xs
  have HM := Lib.hid (prTs_mild (f := true) (xs := xs))
  generalize hte : prTs true xs = ts at hown hl HM ⊢
  have HTE := Lib.hid hte
  clear hte
  have HO := Lib.hid (own_holdsK hown)
  have HB := Lib.hid hb
  clear hown hb
  go_wp2_with fail
  refine (timeOfTrips_any E ts.length d ts _ HO.out rfl hl HM.out).mono ?_
  rintro e w2 ⟨rfl, hb⟩
  have HB2 := Lib.hid (below_then HB.out hb HB.out.size)
  clear hb
  go_wp2
  go_ret2
  rw [HTE.out]
  exact ⟨rfl, HB2.out⟩

end Go.Proofs.Ytgojakcepbdajaa

namespace Go.Proofs.Ytgojakcepbdajaa
open Go.RowKit

set_option maxHeartbeats 1600000 in
theorem implEscortTime_any (A : Option Addr) (n c : Nat) (xs : List Int) (w : World) (hA : Holds w A (nums xs)) (hx : xs.length = n) (hn : n ≤ 9223372036854775807) :
    Calls Try.prog 79 #[.slice A n c] w fun e w' => e = .returned (.tuple #[.int .i64 (timeT (prTs false xs)), .bool (prOk xs)]) ∧ Below w.heap.size w w' := by
  have HX := Lib.hid hx
  clear hx
  go_enter Try.func79, Try.ntmps79
  go_wp2_with fail
  refine (pairTrips_any A n c xs false _ hA HX.out hn).mono ?_
  rintro e w1 ⟨E, d, rfl, hown, hb⟩
  have hl := prTs_len false xs
  have HM := Lib.hid (prTs_mild (f := false) (xs := xs))
  generalize hte : prTs false xs = ts at hown hl HM ⊢
  have HTE := Lib.hid hte
  clear hte
  have HO := Lib.hid (own_holdsK hown)
  have HB := Lib.hid hb
  clear hown hb
  go_wp2_with fail
  refine (timeOfTrips_any E ts.length d ts _ HO.out rfl hl HM.out).mono ?_
  rintro e w2 ⟨rfl, hb⟩
  have HB2 := Lib.hid (below_then HB.out hb HB.out.size)
  clear hb
  go_wp2
  go_ret2
  rw [HTE.out]
  exact ⟨rfl, HB2.out⟩
end Go.Proofs.Ytgojakcepbdajaa

namespace Go.Proofs.Ytgojakcepbdajaa
open Go.RowKit

/-- How many numbers are even. -/
def evI (xs : List Int) : Int := (xs.map fun x => 1 - x % 2).sum
theorem evI_next {xs : List Int} {k : Nat} (hk : k < xs.length) : evI (xs.take (k + 1)) = evI (xs.take k) + (1 - xs[k] % 2) := by
  rw [List.take_succ_eq_append_getElem hk, evI, List.map_append, List.sum_append]
  rw [List.map_cons, List.map_nil, List.sum_cons, List.sum_nil, Int.add_zero]
  rfl
theorem sum_next {xs : List Int} {k : Nat} (hk : k < xs.length) : (xs.take (k + 1)).sum = (xs.take k).sum + xs[k] := by
  rw [List.take_succ_eq_append_getElem hk, List.sum_append, List.sum_cons, List.sum_nil, Int.add_zero]
theorem rem_two (x : Int) : x % 2 = 0 ∨ x % 2 = 1 := by omega
theorem sums_bd {xs : List Int} (h : ∀ y ∈ xs, 1 ≤ y ∧ y ≤ 6) : ∀ k, k ≤ xs.length → (0 ≤ (xs.take k).sum ∧ (xs.take k).sum ≤ 6 * k) ∧ (0 ≤ evI (xs.take k) ∧ evI (xs.take k) ≤ k)
  | 0, _ => by simp [evI]
  | k + 1, hk => by
    have ih := sums_bd h k (by omega)
    have hx := h xs[k] (List.getElem_mem _)
    have hr := rem_two xs[k]
    rw [sum_next (by omega), evI_next (by omega)]
    omega
/-- What a clue of a kind tells of times, with a person. -/
def valC (k a : Int) (xs : List Int) : Int :=
  if k = 0 then xs.getD a.toNat 0 else if k = 1 then xs.sum else if k = 2 then timeT (prTs true xs) else if k = 3 then timeT (prTs false xs) else if k = 4 then xs.getD a.toNat 0 - xs.getD 0 0 else evI xs
/-- Do times fit a clue? -/
def fitC (c : Cl) (xs : List Int) : Bool := if c.1 = 0 ∨ c.1 = 4 then decide (valC c.1 c.2.1 xs = c.2.2) else decide (valC c.1 0 xs = c.2.1)
theorem hid_ok {xs : List Int} (h : hidI xs = true) : prOk xs = true := by
  obtain ⟨h1, h4, hy, -⟩ := hidI_parts h
  rw [prOk, within_yes (by omega) (by omega), Bool.true_and]
  exact allIn_yes fun k hk => within_yes (hy _ (List.getElem_mem hk)).1 (Int.le_trans (hy _ (List.getElem_mem hk)).2 (by omega))

set_option maxHeartbeats 3200000 in
theorem pzValue_any (k a : Int) (A : Option Addr) (n c : Nat) (xs : List Int) (w : World) (hA : Holds w A (nums xs)) (hx : xs.length = n) (hh : hidI xs = true) (hk0 : 0 ≤ k) (hk5 : k ≤ 5) (ha : k = 0 ∨ k = 4 → 0 ≤ a ∧ a < n) :
    Calls Try.prog 77 #[.int .i64 k, .int .i64 a, .slice A n c] w fun e w' => e = .returned (.int .i64 (valC k a xs)) ∧ Below w.heap.size w w' := by
  subst hx
  obtain ⟨h1, h4, hy, -⟩ := hidI_parts hh
  have hbd := sums_bd hy
  have HY := Lib.hid hy
  have HBD := Lib.hid hbd
  have HOK := Lib.hid (hid_ok hh)
  have HA := Lib.hid ha
  have HHA := Lib.hid hA
  clear hy hbd ha
  go_enter Try.func77, Try.ntmps77
  go_wp2
  go_loop [7, 8, 16] (fun s e i => ∃ j : Nat, j ≤ xs.length ∧ i = .int .i64 j ∧ s = .int .i64 (xs.take j).sum ∧ e = .int .i64 (evI (xs.take j))) (fun _ _ i => xs.length - (intOf i).toNat)
  case atStart => exact ⟨0, by omega, rfl, rfl, rfl⟩
  case round =>
    obtain ⟨j, hj, rfl, rfl, rfl⟩ := hrel
    by_cases hlt : j < xs.length
    · obtain ⟨b, o, rfl, hb, hc⟩ := hA.look (k := j) (by simpa [nums] using hlt)
      simp only [nums, List.getElem_map] at hc
      have HS := Lib.hid (sum_next hlt)
      have HE := Lib.hid (evI_next hlt)
      have hx1 := HY.out xs[j] (List.getElem_mem _)
      obtain ⟨x, hx⟩ : ∃ x, x = xs[j] := ⟨_, rfl⟩
      rw [← hx] at hc hx1
      rw [← hx] at HS HE
      obtain ⟨s, hs⟩ : ∃ s, s = (xs.take j).sum := ⟨_, rfl⟩
      obtain ⟨v, hv⟩ : ∃ v, v = evI (xs.take j) := ⟨_, rfl⟩
      have hbj := HBD.out j (by omega)
      rw [← hs, ← hv] at hbj
      rw [← hs] at HS ⊢
      rw [← hv] at HE ⊢
      have hjl : (j : Int) < xs.length := by omega
      have hsw : IntKind.i64.wrap (s + x) = s + x := IntWalk.i64_in _ (by omega)
      have hvw : IntKind.i64.wrap (v + 1) = v + 1 := IntWalk.i64_in _ (by omega)
      clear hx hs hv
      rcases rem_two x with hr | hr
      · have hrr : (x % 2 == 0) = true := by simp [hr]
        rw [hr] at HE
        clear hr
        go_wp2
        go_round
        case rel => exact ⟨j + 1, by omega, by go_num, by rw [HS.out], by rw [HE.out]; exact congrArg _ (by omega)⟩
        case measure => simp [intOf]; omega
      · have hrr : (x % 2 == 0) = false := by simp [hr]
        rw [hr] at HE
        clear hr
        go_wp2
        go_round
        case rel => exact ⟨j + 1, by omega, by go_num, by rw [HS.out], by rw [HE.out]; exact congrArg _ (by omega)⟩
        case measure => simp [intOf]; omega
    · obtain rfl : j = xs.length := by omega
      rw [List.take_length]
      by_cases e0 : k = 0
      · subst e0
        obtain ⟨ha0, han⟩ := HA.out (.inl rfl)
        obtain ⟨m, rfl⟩ := Int.eq_ofNat_of_zero_le ha0
        have hm : m < xs.length := by omega
        obtain ⟨b, o, rfl, hb, hc⟩ := hA.look (k := m) (by simpa [nums] using hm)
        simp only [nums, List.getElem_map] at hc
        have HV : Hid (valC 0 (m : Int) xs = xs[m]) := by show _ = _; simp [valC, hm]
        go_wp2
        go_ret
        exact ⟨ret_of (by rw [HV.out]; rfl), Below.refl _ _⟩
      by_cases e1 : k = 1
      · subst e1
        go_wp2
        go_ret
        exact ⟨rfl, Below.refl _ _⟩
      by_cases e2 : k = 2
      · subst e2
        go_wp2_with fail
        refine (prTime_any A _ c xs _ HHA.out rfl HOK.out).mono ?_
        rintro e w1 ⟨rfl, hb⟩
        go_wp2
        go_ret
        exact ⟨rfl, hb⟩
      by_cases e3 : k = 3
      · subst e3
        go_wp2_with fail
        refine (prTrips_at A _ c xs true _ HHA.out rfl HOK.out).mono ?_
        rintro e w1 ⟨E, d, rs, rfl, hr, hh, hb⟩
        have HR := Lib.hid hr
        have hG := hh.free.grid
        have HB := Lib.hid hb
        have hA1 := HHA.out.below hb
        clear hr hh hb
        go_wp2_with fail
        refine (prSum_at A E _ c d xs false rs _ hA1 hG rfl HOK.out HR.out).mono ?_
        rintro e w2 ⟨rfl, hb⟩
        have HB2 := Lib.hid (below_then HB.out hb HB.out.size)
        clear hb hG
        go_wp2
        go_ret
        exact ⟨rfl, HB2.out⟩
      by_cases e4 : k = 4
      · subst e4
        obtain ⟨ha0, han⟩ := HA.out (.inr rfl)
        obtain ⟨m, rfl⟩ := Int.eq_ofNat_of_zero_le ha0
        have hm : m < xs.length := by omega
        have h0 : 0 < xs.length := by omega
        obtain ⟨b, o, rfl, hb, hc⟩ := hA.look (k := m) (by simpa [nums] using hm)
        obtain ⟨b2, o2, hAe2, hb2, hc0⟩ := hA.look (k := 0) (by simpa [nums] using h0)
        obtain ⟨rfl, rfl⟩ : b = b2 ∧ o = o2 := by
          simp only [Option.some.injEq, Addr.mk.injEq] at hAe2
          exact ⟨hAe2.1, hAe2.2.1⟩
        clear hAe2 hb2
        simp only [nums, List.getElem_map, Nat.add_zero] at hc hc0
        have HV : Hid (valC 4 (m : Int) xs = xs[m] - xs[0]) := by show _ = _; simp [valC, hm, h0]
        have hxm := HY.out xs[m] (List.getElem_mem _)
        have hx0 := HY.out xs[0] (List.getElem_mem _)
        obtain ⟨x, hx⟩ : ∃ x, x = xs[m] := ⟨_, rfl⟩
        obtain ⟨y, hy⟩ : ∃ y, y = xs[0] := ⟨_, rfl⟩
        rw [← hx] at hc hxm
        rw [← hx, ← hy] at HV
        rw [← hy] at hc0 hx0
        have hxw : IntKind.i64.wrap (x - y) = x - y := IntWalk.i64_in _ (by omega)
        have h0i : (0 : Int) < xs.length := by omega
        clear hx hy
        go_wp2_with fail
        go_region
        go_wp2
        go_ret
        exact ⟨ret_of (by rw [HV.out]; rfl), (Below.refl _ _).drew⟩
      have e5 : k = 5 := by omega
      subst e5
      go_wp2
      go_ret
      exact ⟨rfl, Below.refl _ _⟩

theorem valC_noperson {k a : Int} {xs : List Int} (h0 : k ≠ 0) (h4 : k ≠ 4) : valC k a xs = valC k 0 xs := by simp [valC, h0, h4]
theorem clOk_kind {p k a b : Int} (h : clOk p (k, a, b) = true) : 0 ≤ k ∧ k ≤ 5 := by
  by_cases e0 : k = 0
  · omega
  by_cases e1 : k = 1
  · omega
  by_cases e2 : k = 2
  · omega
  by_cases e3 : k = 3
  · omega
  by_cases e4 : k = 4
  · omega
  by_cases e5 : k = 5
  · omega
  rw [clOk_no e0 e1 e2 e3 e4 e5] at h
  cases h
theorem clOk_person {p k a b : Int} (h : clOk p (k, a, b) = true) (hk : k = 0 ∨ k = 4) : 0 ≤ a ∧ a < p := by
  rcases hk with rfl | rfl
  · rw [clOk0, Bool.and_eq_true, within_iff] at h; omega
  · rw [clOk4, Bool.and_eq_true, within_iff] at h; omega
theorem clOk_rest {p k a b : Int} (h : clOk p (k, a, b) = true) (h0 : k ≠ 0) (h4 : k ≠ 4) : b = 0 := by
  by_cases hb : b = 0
  · exact hb
  · rw [clOk_b h0 h4 hb] at h; cases h

set_option maxHeartbeats 3200000 in
theorem pzFits_any (p k a b : Int) (A : Option Addr) (n c : Nat) (xs : List Int) (w : World) (hA : Holds w A (nums xs)) (hx : xs.length = n) (hh : hidI xs = true) (hc : clOk p (k, a, b) = true) (hp : p = n) :
    Calls Try.prog 87 #[.agg #[.int .i64 k, .int .i64 a, .int .i64 b], .slice A n c] w fun e w' => e = .returned (.bool (fitC (k, a, b) xs)) ∧ Below w.heap.size w w' := by
  obtain ⟨hk0, hk5⟩ := clOk_kind hc
  have HP := Lib.hid (fun h => (clOk_person hc h : 0 ≤ a ∧ a < p))
  have hw0 := Whole.fresh w 69 #[.int .i64 k, .int .i64 a, .int .i64 b]
  have hbl := below1 w (.cells #[.int .i64 k, .int .i64 a, .int .i64 b] 69)
  obtain ⟨W, hW⟩ : ∃ W, W = w.alloc (.cells #[.int .i64 k, .int .i64 a, .int .i64 b] 69) := ⟨_, rfl⟩
  have hAW : Holds W A (nums xs) := by rw [hW]; exact hA.below hbl
  rw [← hW] at hw0 hbl
  have HAW := Lib.hid hAW
  have HB := Lib.hid hbl
  have H0 := Lib.hid hw0
  have HWW := Lib.hid hW
  have HX := Lib.hid hx
  have HPN := Lib.hid hp
  clear hbl hA hAW hW hx hc hp
  by_cases h04 : k = 0 ∨ k = 4
  · have HF : Hid (fitC (k, a, b) xs = decide (valC k a xs = b)) := if_pos h04
    obtain ⟨c0, c1, c2⟩ := hw0.cells3
    have hlt := hw0.lt
    have hper := HP.out h04
    clear hw0
    have hcase : (k = 0 → True) ∧ (k = 4 → True) := ⟨fun _ => trivial, fun _ => trivial⟩
    clear hcase
    have hb0 : Below W.heap.size W W := Below.refl _ _
    have hval := fun (q : World) (hq : Below W.heap.size W q) => pzValue_any k a A n c xs q (HAW.out.below hq) HX.out hh hk0 hk5 (fun _ => by have := HPN.out; omega)
    have HVAL := Lib.hid hval
    clear hval
    rcases h04 with rfl | rfl
    · go_enter Try.func87, Try.ntmps87
      go_wp2_with fail
      rw [← HWW.out]
      go_region_held3 (fun w' => w'.cell? ⟨w.heap.size, 0, none⟩ = some (.int .i64 0) ∧ w'.cell? ⟨w.heap.size, 1, none⟩ = some (.int .i64 a) ∧ w'.cell? ⟨w.heap.size, 2, none⟩ = some (.int .i64 b)) (go_keep)
        (first | (go_at_call 77; refine (HVAL.out _ (Below.refl _ _).drew).mono ?_; rintro e w2 ⟨rfl, hb2⟩; have hb3 : Below W.heap.size W w2 := below_then (Below.refl W.heap.size W).drew hb2 (Nat.le_refl _); have hc3 := H0.out.below hb3; obtain ⟨e0, e1, e2⟩ := hc3.cells3; have HB3 := Lib.hid (below_then HB.out hb3 HB.out.size); clear hb2 hb3 hc3) | fail)
      go_wp2
      go_ret
      exact ⟨ret_of (by rw [HF.out]; rfl), HB3.out⟩
    · go_enter Try.func87, Try.ntmps87
      go_wp2_with fail
      rw [← HWW.out]
      go_region_held3 (fun w' => w'.cell? ⟨w.heap.size, 0, none⟩ = some (.int .i64 4) ∧ w'.cell? ⟨w.heap.size, 1, none⟩ = some (.int .i64 a) ∧ w'.cell? ⟨w.heap.size, 2, none⟩ = some (.int .i64 b)) (go_keep)
        (first | (go_at_call 77; refine (HVAL.out _ (Below.refl _ _).drew).mono ?_; rintro e w2 ⟨rfl, hb2⟩; have hb3 : Below W.heap.size W w2 := below_then (Below.refl W.heap.size W).drew hb2 (Nat.le_refl _); have hc3 := H0.out.below hb3; obtain ⟨e0, e1, e2⟩ := hc3.cells3; have HB3 := Lib.hid (below_then HB.out hb3 HB.out.size); clear hb2 hb3 hc3) | fail)
      go_wp2
      go_ret
      exact ⟨ret_of (by rw [HF.out]; rfl), HB3.out⟩
  · have HF : Hid (fitC (k, a, b) xs = decide (valC k 0 xs = a)) := if_neg h04
    obtain ⟨c0, c1, c2⟩ := hw0.cells3
    have hlt := hw0.lt
    clear hw0
    have hk0' : k ≠ 0 := fun e => h04 (.inl e)
    have hk4' : k ≠ 4 := fun e => h04 (.inr e)
    have HVAL := Lib.hid (fun (q : World) (hq : Below W.heap.size W q) => pzValue_any k 0 A n c xs q (HAW.out.below hq) HX.out hh hk0 hk5 (fun h => absurd h h04))
    have hk0b : (k == 0) = false := by simp [hk0']
    have hk4b : (k == 4) = false := by simp [hk4']
    clear h04
    go_enter Try.func87, Try.ntmps87
    go_wp2_with fail
    rw [← HWW.out]
    go_region_held3 (fun w' => w'.cell? ⟨w.heap.size, 0, none⟩ = some (.int .i64 k) ∧ w'.cell? ⟨w.heap.size, 1, none⟩ = some (.int .i64 a) ∧ w'.cell? ⟨w.heap.size, 2, none⟩ = some (.int .i64 b)) (go_keep)
      (first | (go_at_call 77; refine (HVAL.out _ (Below.refl _ _).drew).mono ?_; rintro e w2 ⟨rfl, hb2⟩; have hb3 : Below W.heap.size W w2 := below_then (Below.refl W.heap.size W).drew hb2 (Nat.le_refl _); have hc3 := H0.out.below hb3; obtain ⟨e0, e1, e2⟩ := hc3.cells3; have HB3 := Lib.hid (below_then HB.out hb3 HB.out.size); clear hb2 hb3 hc3) | fail)
    go_wp2
    go_ret
    exact ⟨ret_of (by rw [HF.out]; rfl), HB3.out⟩
end Go.Proofs.Ytgojakcepbdajaa
