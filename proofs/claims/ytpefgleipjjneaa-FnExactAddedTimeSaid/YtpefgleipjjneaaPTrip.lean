/-
  What is proved: the contract of the program's trips of a squad. Conditions: at most twelve people.
-/
import Derived.Test.YtpefgleipjjneaaGain
import Derived.Deep.AppendLies
namespace Go.Proofs.Ytpefgleipjjneaa
open Go.RowKit

/-- A trip's cells. -/
def ptCells (t : Pt) : Array Value := #[.int .i64 t.1.1, .int .i64 t.1.2, .int .i64 t.2.1, .int .i64 t.2.2]
def ptsCells (ts : List Pt) : List Value := ts.flatMap fun t => (ptCells t).toList
theorem pts_app (a b : List Pt) : ptsCells (a ++ b) = ptsCells a ++ ptsCells b := List.flatMap_append
theorem pts_len (ts : List Pt) : (ptsCells ts).length = ts.length * 4 := by
  induction ts with
  | nil => rfl
  | cons t ts ih =>
    have h : ptsCells (t :: ts) = (ptCells t).toList ++ ptsCells ts := rfl
    rw [h, List.length_append, ih, List.length_cons]
    simp [ptCells]
    omega
theorem pts_one (ts : List Pt) : ∀ u ∈ ptsCells ts, u.oneCell' = true := by
  intro u hu
  simp only [ptsCells, List.mem_flatMap, ptCells, List.mem_cons, List.not_mem_nil, or_false] at hu
  obtain ⟨t, -, rfl | rfl | rfl | rfl⟩ := hu <;> rfl
theorem info_pt : (Try.prog.info? 60).map (fun i => (i.zero, i.size, i.bytes)) = some (some (.agg #[.int .i64 0, .int .i64 0, .int .i64 0, .int .i64 0]), 4, 32) := by kernel_rfl

set_option maxHeartbeats 1600000 in
theorem alone_any (x : Wk) (w : World) : Calls Try.prog 35 #[.agg #[.int .i64 x.1, .int .i64 x.2]] w fun e w' => e = .returned (.agg #[.int .i64 x.1, .int .i64 x.2, .int .i64 x.1, .int .i64 x.2]) ∧ Below w.heap.size w w' := by
  have hb := below2 w (.cells #[.int .i64 x.1, .int .i64 x.2] 52) (.cells #[.int .i64 0, .int .i64 0, .int .i64 0, .int .i64 0] 60)
  have HB := Lib.hid hb
  clear hb
  go_enter Try.func35, Try.ntmps35
  go_wp2
  exact bodyPost_ret (v := .agg #[.int .i64 x.1, .int .i64 x.2, .int .i64 x.1, .int .i64 x.2]) (by simp [results, Try.results35, go_sem]) rfl ⟨rfl, below2 w _ _⟩

theorem wpList_load_row_g {P : Program} {ops : Array Oper} {rest : List Oper} {o : Oper} {a : Act} {w : World} {Q : Exit → Act → World → Prop} (hw : Region.wanted o (yielded ops a.tmps) = true) (ty : TypeId) (x : Operand) (ho : o.op = .load ty x)
    (g : Nat) (hx : a.eval x = .pointer (some ⟨g, 0, none⟩)) (t : TypeId) (cs : Array Value) (fr : Nat × Nat) (d : TypeDesc) (hg : w.heap[g]? = some (.cells cs t fr))
    (hu : P.underlying ty = some d) (hd : (match d with | .struct _ | .array _ _ => true | _ => false) = true) (hi : (P.info? ty).map (·.size) = some cs.size)
    (h : wpList P ops Q rest (a.put o.dst (.agg cs)) w) : wpList P ops Q (o :: rest) a w :=
  BigFrame.wpList_want hw fun _ hK => wp_load_row ty x ho g hx t cs fr d hg hu hd hi (hK _ _ h)

theorem pts_news (w : World) (ts : List Pt) : ∀ j u, (ptsCells ts)[j]? = some u → (w.alloc (.cells (ptsCells ts).toArray 60)).cell? ((⟨w.heap.size, 0, none⟩ : Addr).add j) = some u := by
  have h := cells_fresh w 60 (ptsCells ts).toArray
  simpa using h
/-- What trips hands back. -/
def TripsPost (ts : List Pt) (w : World) (e : Ending) (w' : World) : Prop :=
  ∃ (E : Option Addr) (d : Nat), e = .returned (.slice E ts.length d) ∧ w'.ownsRow w.heap.size 60 4 (.slice E ts.length d) ts.length (ptsCells ts) ∧ Below w.heap.size w w'
/-- The trips under way while k are not over. -/
def TripsTo (f : Bool) (W : List Wk) (k lo : Nat) (wr : World) (v : Value) (acc : List Pt) : Prop :=
  ∃ (E : Option Addr) (d : Nat), v = .slice E acc.length d ∧ wr.ownsRow lo 60 4 (.slice E acc.length d) acc.length (ptsCells acc) ∧ acc ++ tripsT f W k = tripsT f W W.length
/-- Times that no sum of three makes too great. -/
def Mild (W : List Wk) : Prop := ∀ k, 0 ≤ (wk W k).2 ∧ (wk W k).2 ≤ 1000

/-- Four boxes, each with a person. -/
structure Four (wx : World) (p q r t : Nat) (a b y z : Wk) : Prop where
  pa : Whole wx p 52 #[.int .i64 a.1, .int .i64 a.2]
  qb : Whole wx q 52 #[.int .i64 b.1, .int .i64 b.2]
  ry : Whole wx r 52 #[.int .i64 y.1, .int .i64 y.2]
  tz : Whole wx t 52 #[.int .i64 z.1, .int .i64 z.2]
theorem Four.below {wx w' : World} {p q r t : Nat} {a b y z : Wk} (h : Four wx p q r t a b y z) (hb : Below wx.heap.size wx w') : Four w' p q r t a b y z := ⟨h.pa.below hb, h.qb.below hb, h.ry.below hb, h.tz.below hb⟩
theorem Four.keep {wx w' : World} {p q r t B : Nat} {a b y z : Wk} (h : Four wx p q r t a b y z) (hb : Below B wx w') (hp : p < B) (hq : q < B) (hr : r < B) (ht : t < B) : Four w' p q r t a b y z := ⟨h.pa.below' hb hp, h.qb.below' hb hq, h.ry.below' hb hr, h.tz.below' hb ht⟩
theorem Four.cells {wx : World} {p q r t : Nat} {a b y z : Wk} (h : Four wx p q r t a b y z) :
    (wx.cell? ⟨p, 0, none⟩ = some (.int .i64 a.1) ∧ wx.cell? ⟨p, 1, none⟩ = some (.int .i64 a.2)) ∧ (wx.cell? ⟨q, 0, none⟩ = some (.int .i64 b.1) ∧ wx.cell? ⟨q, 1, none⟩ = some (.int .i64 b.2)) ∧ (wx.cell? ⟨r, 0, none⟩ = some (.int .i64 y.1) ∧ wx.cell? ⟨r, 1, none⟩ = some (.int .i64 y.2)) ∧ (wx.cell? ⟨t, 0, none⟩ = some (.int .i64 z.1) ∧ wx.cell? ⟨t, 1, none⟩ = some (.int .i64 z.2)) :=
  ⟨⟨h.pa.two.1, h.pa.two.2.1⟩, ⟨h.qb.two.1, h.qb.two.2.1⟩, ⟨h.ry.two.1, h.ry.two.2.1⟩, h.tz.two.1, h.tz.two.2.1⟩
theorem four_grown {w w' : World} {p q r t : Nat} {a b y z : Wk} {row : Option Nat} (h : Four w p q r t a b y z) (hg : w.grownBy w' row) (hd : ∀ kk, row = some kk → kk ≠ p ∧ kk ≠ q ∧ kk ≠ r ∧ kk ≠ t) : Four w' p q r t a b y z :=
  ⟨(hg.block p h.pa.lt (fun e => (hd p e.symm).1 rfl)).trans h.pa, (hg.block q h.qb.lt (fun e => (hd q e.symm).2.1 rfl)).trans h.qb, (hg.block r h.ry.lt (fun e => (hd r e.symm).2.2.1 rfl)).trans h.ry, (hg.block t h.tz.lt (fun e => (hd t e.symm).2.2.2 rfl)).trans h.tz⟩
theorem tripsT_step (f : Bool) (W : List Wk) {k y : Nat} (h4 : 4 ≤ k) (hy : y + 2 = k) : tripsT f W k = round f W y ++ tripsT f W y := by
  obtain ⟨m, rfl⟩ : ∃ m, k = m + 4 := ⟨k - 4, by omega⟩
  obtain rfl : y = m + 2 := by omega
  rw [tripsT]

set_option maxHeartbeats 12800000 in
set_option maxRecDepth 100000 in
theorem trips_any (W : List Wk) (f : Bool) (w : World) (h1 : 1 ≤ W.length) (h12 : W.length ≤ 12) (hmild : Mild W) :
    Calls Try.prog 31 #[.agg (squadCells W W.length), .bool f] w (TripsPost (tripsT f W W.length) w) := by
  obtain ⟨i1, ri, rz0, rz1, rz2⟩ := info_parts info_pt
  have RI := Lib.hid ri
  have RZ0 := Lib.hid rz0
  have RZ1 := Lib.hid rz1
  have RZ2 := Lib.hid rz2
  have HTL := Lib.hid (trips_len f W W.length)
  have h0 := Whole.fresh w 55 (squadCells W W.length)
  have hb0 := below1 w (.cells (squadCells W W.length) 55)
  have a0 := (h0.cell 0).trans (squad_who W W.length (k := 0) (by omega))
  have a1 := (h0.cell 1).trans (squad_time W W.length (k := 0) (by omega))
  have b0 := (h0.cell 2).trans (squad_who W W.length (k := 1) (by omega))
  have b1 := (h0.cell 3).trans (squad_time W W.length (k := 1) (by omega))
  obtain ⟨W0, hW0⟩ : ∃ W0, W0 = w.alloc (.cells (squadCells W W.length) 55) := ⟨_, rfl⟩
  rw [← hW0] at h0 hb0 a0 a1 b0 b1
  have hl0 := h0.lt
  have HW0 := Lib.hid hW0
  have H0 := Lib.hid h0
  have HB0 := Lib.hid hb0
  have HMILD := Lib.hid hmild
  obtain ⟨a, hwa⟩ : ∃ a, a = wk W 0 := ⟨_, rfl⟩
  obtain ⟨b, hwb⟩ : ∃ b, b = wk W 1 := ⟨_, rfl⟩
  rw [← hwa] at a0 a1
  rw [← hwb] at b0 b1
  have HWA := Lib.hid hwa
  have HWB := Lib.hid hwb
  clear hW0 h0 hb0 hwa hwb hmild ri rz0 rz1 rz2
  go_enter Try.func31, Try.ntmps31
  go_wp2_with fail
  go_step3
  go_wp2_with fail
  go_cut [5, 6] from 11 to 16 (fun s5 s6 wx => TwoBoxes W0.heap.size a b W0 s5 s6 wx)
  case first =>
    rw [← HW0.out]
    have hn1 : ¬ W0.heap.size = w.heap.size := by omega
    have hn2 : ¬ W0.heap.size + 1 = w.heap.size := by omega
    have hn3 : ¬ w.heap.size = W0.heap.size := by omega
    have hn4 : ¬ w.heap.size = W0.heap.size + 1 := by omega
    go_region_held3 (fun w' => (w'.cell? ⟨w.heap.size, 0, none⟩ = some (.int .i64 a.1) ∧ w'.cell? ⟨w.heap.size, 1, none⟩ = some (.int .i64 a.2)) ∧ (w'.cell? ⟨w.heap.size, 2, none⟩ = some (.int .i64 b.1) ∧ w'.cell? ⟨w.heap.size, 3, none⟩ = some (.int .i64 b.2))) (go_keep) (fail)
    all_goals (go_wp2_with fail; go_meet)
    all_goals first | exact two_ab a b W0 | exact two_ba a b W0
  obtain ⟨W1, rfl⟩ : ∃ W1 : World, W1 = wc := ⟨_, rfl⟩
  obtain ⟨p, q, rfl, rfl, hp, hq, hpq, hwp, hwq, hb⟩ := hcut
  have HQ1 := Lib.hid (H0.out.below hb)
  have HP1 := Lib.hid hwp
  have HR1 := Lib.hid hwq
  have HB1 := Lib.hid (below_then HB0.out hb HB0.out.size)
  have hpl := hwp.lt
  have hql := hwq.lt
  have hgl : w.heap.size < W1.heap.size := by have := hb.size; omega
  have h24 := (HQ1.out.cell 24).trans (squad_n _ _)
  clear hwp hwq hb a0 a1 b0 b1
  go_wp2_with fail
  go_step3
  go_wp2_with fail
  clear h24
  go_loopw [7, 8] (fun l v wr => ∃ (k : Nat) (acc : List Pt), 1 ≤ k ∧ k ≤ W.length ∧ l = .int .i64 k ∧ TripsTo f W k W1.heap.size wr v acc ∧ Below W1.heap.size W1 wr) (fun l _ _ => (intOf l).toNat)
  case atStart => exact ⟨W.length, [], h1, Nat.le_refl _, rfl, ⟨none, 0, rfl, World.ownsRow_nil _ _ _ _, rfl⟩, Below.refl _ _⟩
  case round =>
    obtain ⟨k, acc, hk1, hkn, rfl, ⟨E, d, rfl, hown, hacc⟩, hb⟩ := hrel
    have hwz : W1.heap.size ≤ wr.heap.size := hb.size
    have hpw := HP1.out.below hb
    have hqw := HR1.out.below hb
    have hsw := HQ1.out.below hb
    have hal : acc.length ≤ 24 := by
      have h := congrArg List.length hacc
      have := HTL.out
      simp at h
      omega
    obtain ⟨p0, p1, -, -⟩ := hpw.two
    obtain ⟨q0, q1, -, -⟩ := hqw.two
    have HSW := Lib.hid hsw
    have HPW := Lib.hid hpw
    have HQW := Lib.hid hqw
    have HO := Lib.hid hown
    have HB := Lib.hid hb
    by_cases e1 : k = 1
    · subst e1
      have HACC : Hid (acc ++ [(a, a)] = tripsT f W W.length) := by show _ = _; rw [← hacc, HWA.out]; rfl
      clear hpw hqw hsw hown hacc hb
      go_wp2_with fail
      refine (alone_any a _).mono ?_
      rintro e w2 ⟨rfl, hb2⟩
      have hs2 : wr.heap.size ≤ w2.heap.size := hb2.size
      have HO2 := Lib.hid (own_below HO.out hb2)
      have HB2 := Lib.hid (below_then HB.out hb2 hwz)
      clear hb2
      have HOW := Lib.hid (HO2.out.alloc (.cells (ptsCells [(a, a)]).toArray 60))
      have HBB := Lib.hid (HB2.out.alloc (Nat.le_trans hwz hs2) (.cells (ptsCells [(a, a)]).toArray 60))
      have hnew : ∀ j u, (ptsCells [(a, a)])[j]? = some u → (w2.alloc (.cells (ptsCells [(a, a)]).toArray 60)).cell? ((⟨w2.heap.size, 0, none⟩ : Addr).add j) = some u := by
        have h := cells_fresh w2 60 (ptsCells [(a, a)]).toArray
        simpa using h
      have HNEW := Lib.hid hnew
      clear hnew
      have HLN := Lib.hid (pts_len [(a, a)])
      have HMX := Lib.hid (show acc.length + 1 ≤ maxLen by unfold maxLen; omega)
      have HBY := Lib.hid (show (acc.length + 1) * 32 ≤ 140737488355328 by omega)
      have HBS := Lib.hid (show W1.heap.size ≤ (w2.alloc (.cells (ptsCells [(a, a)]).toArray 60)).heap.size by simp; omega)
      go_wp2_with (at_builtin; refine wpList_append_lies _ rfl (.tmp 22) (.tmp 25) 42 rfl W1.heap.size 60 i1 (.agg #[.int .i64 0, .int .i64 0, .int .i64 0, .int .i64 0]) 4 32 Try.underlying42 RI.out RZ0.out RZ1.out RZ2.out rfl (by decide) (.slice E acc.length d) acc.length (ptsCells acc) rfl HOW.out ⟨w2.heap.size, 0, none⟩ 1 1 (ptsCells [(a, a)]) rfl HLN.out HNEW.out (pts_one _) (by decide) HMX.out HBY.out HBS.out (w2.heap.size + 1) (by simp) ?_; intro g3 c3 w3 hown3 hg3 hat3 hlt3)
      have hbf : Below W1.heap.size W1 w3 := HBB.out.grown hg3 HBS.out (fun kk e => (HOW.out.lt kk e).1)
      have HBF := Lib.hid (HB1.out.trans (hbf.mono (Nat.le_trans (Nat.le_of_lt hgl) (Nat.le_refl _))))
      have hof : w3.ownsRow w.heap.size 60 4 (.slice (some ⟨g3, 0, none⟩) (acc.length + 1) c3) (acc.length + 1) (ptsCells (tripsT f W W.length)) := by
        rw [← HACC.out, pts_app]
        exact own_lower hown3 (Nat.le_of_lt hgl)
      have HOF := Lib.hid hof
      have HLF : Hid ((tripsT f W W.length).length = acc.length + 1) := by show _ = _; rw [← HACC.out]; simp
      clear hbf hof hown3 hg3 hat3 hlt3
      go_wp2
      rw [Exit.noGoto_ret]
      go_ret
      exact ⟨some ⟨g3, 0, none⟩, c3, by rw [HLF.out]; rfl, by rw [HLF.out]; exact HOF.out, HBF.out⟩
    by_cases e2 : k = 2
    · subst e2
      have HACC : Hid (acc ++ [(a, b)] = tripsT f W W.length) := by show _ = _; rw [← hacc, HWA.out, HWB.out]; rfl
      clear hpw hqw hsw hown hacc hb
      have HOW := Lib.hid (HO.out.alloc (.cells (ptsCells [(a, b)]).toArray 60))
      have HBB := Lib.hid (HB.out.alloc hwz (.cells (ptsCells [(a, b)]).toArray 60))
      have hnew : ∀ j u, (ptsCells [(a, b)])[j]? = some u → (wr.alloc (.cells (ptsCells [(a, b)]).toArray 60)).cell? ((⟨wr.heap.size, 0, none⟩ : Addr).add j) = some u := by
        have h := cells_fresh wr 60 (ptsCells [(a, b)]).toArray
        simpa using h
      have HNEW := Lib.hid hnew
      clear hnew
      have HLN := Lib.hid (pts_len [(a, b)])
      have HMX := Lib.hid (show acc.length + 1 ≤ maxLen by unfold maxLen; omega)
      have HBY := Lib.hid (show (acc.length + 1) * 32 ≤ 140737488355328 by omega)
      have HBS := Lib.hid (show W1.heap.size ≤ (wr.alloc (.cells (ptsCells [(a, b)]).toArray 60)).heap.size by simp; omega)
      go_wp2_with (at_builtin; refine wpList_append_lies _ rfl (.tmp 29) (.tmp 33) 42 rfl W1.heap.size 60 i1 (.agg #[.int .i64 0, .int .i64 0, .int .i64 0, .int .i64 0]) 4 32 Try.underlying42 RI.out RZ0.out RZ1.out RZ2.out rfl (by decide) (.slice E acc.length d) acc.length (ptsCells acc) rfl HOW.out ⟨wr.heap.size, 0, none⟩ 1 1 (ptsCells [(a, b)]) rfl HLN.out HNEW.out (pts_one _) (by decide) HMX.out HBY.out HBS.out (wr.heap.size + 1) (by simp) ?_; intro g3 c3 w3 hown3 hg3 hat3 hlt3)
      have hbf : Below W1.heap.size W1 w3 := HBB.out.grown hg3 HBS.out (fun kk e => (HOW.out.lt kk e).1)
      have HBF := Lib.hid (HB1.out.trans (hbf.mono (Nat.le_trans (Nat.le_of_lt hgl) (Nat.le_refl _))))
      have hof : w3.ownsRow w.heap.size 60 4 (.slice (some ⟨g3, 0, none⟩) (acc.length + 1) c3) (acc.length + 1) (ptsCells (tripsT f W W.length)) := by
        rw [← HACC.out, pts_app]
        exact own_lower hown3 (Nat.le_of_lt hgl)
      have HOF := Lib.hid hof
      have HLF : Hid ((tripsT f W W.length).length = acc.length + 1) := by show _ = _; rw [← HACC.out]; simp
      clear hbf hof hown3 hg3 hat3 hlt3
      go_wp2
      rw [Exit.noGoto_ret]
      go_ret
      exact ⟨some ⟨g3, 0, none⟩, c3, by rw [HLF.out]; rfl, by rw [HLF.out]; exact HOF.out, HBF.out⟩
    by_cases e3 : k = 3
    · subst e3
      obtain ⟨c, hc⟩ : ∃ c, c = wk W 2 := ⟨_, rfl⟩
      have HWC := Lib.hid hc
      have HACC : Hid (acc ++ [(a, b), (a, a), (a, c)] = tripsT f W W.length) := by show _ = _; rw [← hacc, HWA.out, HWB.out, hc]; rfl
      have c4 := (hsw.cell 4).trans (squad_who W W.length (k := 2) (by omega))
      have c5 := (hsw.cell 5).trans (squad_time W W.length (k := 2) (by omega))
      rw [← hc] at c4 c5
      clear hpw hqw hsw hown hacc hb hc
      go_wp2_with fail
      go_region_held3 (fun w' => (w'.cell? ⟨p, 0, none⟩ = some (.int .i64 a.1) ∧ w'.cell? ⟨p, 1, none⟩ = some (.int .i64 a.2)) ∧ (w'.cell? ⟨q, 0, none⟩ = some (.int .i64 b.1) ∧ w'.cell? ⟨q, 1, none⟩ = some (.int .i64 b.2)) ∧ (w'.cell? ⟨w.heap.size, 4, none⟩ = some (.int .i64 c.1) ∧ w'.cell? ⟨w.heap.size, 5, none⟩ = some (.int .i64 c.2))) (go_keep)
        (first | (go_at_call 35; refine (alone_any a _).mono ?_; rintro e w2 ⟨rfl, hb2⟩; have hs2 : wr.heap.size ≤ w2.heap.size := hb2.size; have hp2 := HPW.out.drew.below hb2; have hq2 := HQW.out.drew.below hb2; have hs22 := HSW.out.drew.below hb2; obtain ⟨r0, r1, -, -⟩ := hp2.two; obtain ⟨t0, t1, -, -⟩ := hq2.two; have d4 := (hs22.cell 4).trans (squad_who W W.length (k := 2) (by omega)); have d5 := (hs22.cell 5).trans (squad_time W W.length (k := 2) (by omega)); rw [← HWC.out] at d4 d5; have HO2 := Lib.hid (own_below (own_below HO.out (Below.refl wr.heap.size wr).drew) hb2); have HB2 := Lib.hid (below_then HB.out.drew hb2 hwz); have HOW := Lib.hid (HO2.out.alloc (.cells (ptsCells [(a, b), (a, a), (a, c)]).toArray 60)); have HBB := Lib.hid (HB2.out.alloc (Nat.le_trans hwz hs2) (.cells (ptsCells [(a, b), (a, a), (a, c)]).toArray 60)); have HNEW := Lib.hid (pts_news w2 [(a, b), (a, a), (a, c)]); have HLN := Lib.hid (pts_len [(a, b), (a, a), (a, c)]); have HMX := Lib.hid (show acc.length + 3 ≤ maxLen from (by unfold maxLen; omega)); have HBY := Lib.hid (show (acc.length + 3) * 32 ≤ 140737488355328 from (by omega)); have HBS := Lib.hid (show W1.heap.size ≤ (w2.alloc (.cells (ptsCells [(a, b), (a, a), (a, c)]).toArray 60)).heap.size from (by simp; omega)); clear hb2 hp2 hq2 hs22) | (refine step_append_lies _ rfl (.tmp 37) (.tmp 48) 42 rfl W1.heap.size 60 i1 (.agg #[.int .i64 0, .int .i64 0, .int .i64 0, .int .i64 0]) 4 32 Try.underlying42 RI.out RZ0.out RZ1.out RZ2.out rfl (by decide) (.slice E acc.length d) acc.length (ptsCells acc) (by simp [Act.eval]) HOW.out ⟨w2.heap.size, 0, none⟩ 3 3 (ptsCells [(a, b), (a, a), (a, c)]) (by simp [Act.eval]) HLN.out HNEW.out (pts_one _) (by decide) HMX.out HBY.out HBS.out (w2.heap.size + 1) (by simp) ?_; intro g3 c3 w3 hown3 hg3 hat3 hlt3; have hbf : Below W1.heap.size W1 w3 := HBB.out.grown hg3 HBS.out (fun kk e => (HOW.out.lt kk e).1); have HBF := Lib.hid hbf; have HG3 := Lib.hid hown3; obtain ⟨u0, u1, -, -⟩ := (HP1.out.below hbf).two; obtain ⟨v0, v1, -, -⟩ := (HR1.out.below hbf).two; have f4 := ((HQ1.out.below hbf).cell 4).trans (squad_who W W.length (k := 2) (by omega)); have f5 := ((HQ1.out.below hbf).cell 5).trans (squad_time W W.length (k := 2) (by omega)); rw [← HWC.out] at f4 f5; clear hbf hown3 hg3 hat3) | fail)
      have HBG := Lib.hid (HB1.out.trans (HBF.out.mono (Nat.le_of_lt hgl)))
      have hof : w3.ownsRow w.heap.size 60 4 (.slice (some ⟨g3, 0, none⟩) (acc.length + 3) c3) (acc.length + 3) (ptsCells (tripsT f W W.length)) := by
        rw [← HACC.out, pts_app]
        exact own_lower HG3.out (Nat.le_of_lt hgl)
      have HOF := Lib.hid hof
      have HLF : Hid ((tripsT f W W.length).length = acc.length + 3) := by show _ = _; rw [← HACC.out]; simp
      clear hof
      go_wp2
      rw [Exit.noGoto_ret]
      go_ret
      exact ⟨some ⟨g3, 0, none⟩, c3, by rw [HLF.out]; rfl, by rw [HLF.out]; exact HOF.out, HBG.out⟩
    have hk4 : 4 ≤ k := by omega
    obtain ⟨y, hky⟩ : ∃ y, y + 2 = k := ⟨k - 2, by omega⟩
    obtain ⟨z, hkz⟩ : ∃ z, z + 1 = k := ⟨k - 1, by omega⟩
    have hs2 : (k : Int) - 2 = (y : Int) := by omega
    have hs1 : (k : Int) - 1 = (z : Int) := by omega
    have hw2 : IntKind.i64.wrap ((k : Int) - 2) = (y : Int) := by rw [hs2]; exact IntWalk.i64_in _ (by omega)
    have hw1 : IntKind.i64.wrap ((k : Int) - 1) = (z : Int) := by rw [hs1]; exact IntWalk.i64_in _ (by omega)
    have hwy : IntKind.i64.wrap (y : Int) = (y : Int) := IntWalk.i64_in _ (by omega)
    have hwz' : IntKind.i64.wrap (z : Int) = (z : Int) := IntWalk.i64_in _ (by omega)
    have hb1 : ((k : Int) == 1) = false := by simp; omega
    have hb2 : ((k : Int) == 2) = false := by simp; omega
    have hb3 : ((k : Int) == 3) = false := by simp; omega
    have hy0 : (0 : Int) ≤ (y : Int) := by omega
    have hz0 : (0 : Int) ≤ (z : Int) := by omega
    have hy12 : (y : Int) < 12 := by omega
    have hz12 : (z : Int) < 12 := by omega
    have HZY : Hid (z = y + 1) := by show _ = _; omega
    have HACC : Hid (acc ++ (round f W y ++ tripsT f W y) = tripsT f W W.length) := by show _ = _; rw [← tripsT_step f W hk4 hky]; exact hacc
    have hY0 := (hsw.cell (2 * y)).trans (squad_who W W.length (k := y) (by omega))
    have hY1 := (hsw.cell (2 * y + 1)).trans (squad_time W W.length (k := y) (by omega))
    have hZ0 := (hsw.cell (2 * z)).trans (squad_who W W.length (k := z) (by omega))
    have hZ1 := (hsw.cell (2 * z + 1)).trans (squad_time W W.length (k := z) (by omega))
    rw [show 2 * y = y * 2 from Nat.mul_comm _ _] at hY0 hY1
    rw [show 2 * z = z * 2 from Nat.mul_comm _ _] at hZ0 hZ1
    obtain ⟨Y, hY⟩ : ∃ Y, Y = wk W y := ⟨_, rfl⟩
    obtain ⟨Z, hZ⟩ : ∃ Z, Z = wk W z := ⟨_, rfl⟩
    rw [← hY] at hY0 hY1
    rw [← hZ] at hZ0 hZ1
    have HY := Lib.hid hY
    have HZ := Lib.hid hZ
    have HKY := Lib.hid hky
    have hyk : y < k := by omega
    have hy2 : 2 ≤ y := by omega
    have hyn : y ≤ W.length := by omega
    clear hpw hqw hsw hown hacc hb hky hkz hY hZ e1 e2 e3
    go_wp2_with fail
    go_cut [9, 10] from 50 to 59 (fun s9 s10 wx => TwoBoxes wr.heap.size Y Z wr s9 s10 wx)
    case first =>
      have hn1 : ¬ wr.heap.size = w.heap.size := by omega
      have hn2 : ¬ wr.heap.size + 1 = w.heap.size := by omega
      have hn3 : ¬ w.heap.size = wr.heap.size := by omega
      have hn4 : ¬ w.heap.size = wr.heap.size + 1 := by omega
      go_region_held3 (fun w' => (w'.cell? ⟨w.heap.size, y * 2, none⟩ = some (.int .i64 Y.1) ∧ w'.cell? ⟨w.heap.size, y * 2 + 1, none⟩ = some (.int .i64 Y.2)) ∧ (w'.cell? ⟨w.heap.size, z * 2, none⟩ = some (.int .i64 Z.1) ∧ w'.cell? ⟨w.heap.size, z * 2 + 1, none⟩ = some (.int .i64 Z.2))) (go_keep) (fail)
      all_goals (go_wp2_with fail; go_meet)
      all_goals first | exact two_ab Y Z wr | exact two_ba Y Z wr
    case rest =>
      obtain ⟨w5, rfl⟩ : ∃ w5 : World, w5 = wc := ⟨_, rfl⟩
      obtain ⟨r, t, rfl, rfl, hr, ht, hrt, hwr, hwt, hb⟩ := hcut
      have H45 := Lib.hid (Four.mk (HPW.out.below hb) (HQW.out.below hb) hwr hwt)
      have HS5 := Lib.hid (HSW.out.below hb)
      have HO5 := Lib.hid (own_below HO.out hb)
      have HB5 := Lib.hid (below_then HB.out hb hwz)
      have hz5 : W1.heap.size ≤ w5.heap.size := Nat.le_trans hwz hb.size
      have HFAR : Hid (∀ kk, (Value.slice E acc.length d).ownBlock = some kk → kk ≠ p ∧ kk ≠ q ∧ kk ≠ r ∧ kk ≠ t) := fun kk e => by
        have := HO.out.lt kk e
        omega
      clear hwr hwt hb hY0 hY1 hZ0 hZ1
      cases f
      · have HAC : Hid (acc ++ ([(a, Z), (a, a), (a, Y), (a, a)] ++ tripsT false W y) = tripsT false W W.length) := by show _ = _; rw [← HACC.out, HWA.out, HY.out, HZ.out, HZY.out]; rfl
        obtain ⟨⟨i0, i1'⟩, ⟨i2, i3⟩, ⟨i4, i5⟩, i6, i7⟩ := H45.out.cells
        go_wp2_with fail
        go_region_held3 (fun w' => (w'.cell? ⟨p, 0, none⟩ = some (.int .i64 a.1) ∧ w'.cell? ⟨p, 1, none⟩ = some (.int .i64 a.2)) ∧ (w'.cell? ⟨q, 0, none⟩ = some (.int .i64 b.1) ∧ w'.cell? ⟨q, 1, none⟩ = some (.int .i64 b.2)) ∧ (w'.cell? ⟨r, 0, none⟩ = some (.int .i64 Y.1) ∧ w'.cell? ⟨r, 1, none⟩ = some (.int .i64 Y.2)) ∧ (w'.cell? ⟨t, 0, none⟩ = some (.int .i64 Z.1) ∧ w'.cell? ⟨t, 1, none⟩ = some (.int .i64 Z.2))) (go_keep)
          (first | (go_at_call 35; refine (alone_any a _).mono ?_; rintro e w7 ⟨rfl, hb7⟩; have hs7 : w6.heap.size ≤ w7.heap.size := hb7.size; have H47 := Lib.hid (H46.out.below hb7); obtain ⟨⟨l0, l1⟩, ⟨l2, l3⟩, ⟨l4, l5⟩, l6, l7⟩ := H47.out.cells; have HO7 := Lib.hid (own_below HO6.out hb7); have HB7 := Lib.hid (below_then HB6.out hb7 (Nat.le_trans hz5 hs6)); have HOW := Lib.hid (HO7.out.alloc (.cells (ptsCells [(a, Z), (a, a), (a, Y), (a, a)]).toArray 60)); have HBB := Lib.hid (HB7.out.alloc (Nat.le_trans hz5 (Nat.le_trans hs6 hs7)) (.cells (ptsCells [(a, Z), (a, a), (a, Y), (a, a)]).toArray 60)); have HNEW := Lib.hid (pts_news w7 [(a, Z), (a, a), (a, Y), (a, a)]); have HLN := Lib.hid (pts_len [(a, Z), (a, a), (a, Y), (a, a)]); have HMX := Lib.hid (show acc.length + 4 ≤ maxLen from (by unfold maxLen; omega)); have HBY := Lib.hid (show (acc.length + 4) * 32 ≤ 140737488355328 from (by omega)); have HBS := Lib.hid (show W1.heap.size ≤ (w7.alloc (.cells (ptsCells [(a, Z), (a, a), (a, Y), (a, a)]).toArray 60)).heap.size from (by simp; omega)); clear hb7) | (go_at_call 35; refine (alone_any a _).mono ?_; rintro e w6 ⟨rfl, hb6⟩; have hs6 : w5.heap.size ≤ w6.heap.size := hb6.size; have H46 := Lib.hid ((H45.out.below (Below.refl w5.heap.size w5).drew).below hb6); obtain ⟨⟨j0, j1⟩, ⟨j2, j3⟩, ⟨j4, j5⟩, j6, j7⟩ := H46.out.cells; have HO6 := Lib.hid (own_below (own_below HO5.out (Below.refl w5.heap.size w5).drew) hb6); have HB6 := Lib.hid (below_then HB5.out.drew hb6 hz5); clear hb6) | (refine step_append_lies _ rfl (.tmp 80) (.tmp 91) 42 rfl W1.heap.size 60 i1 (.agg #[.int .i64 0, .int .i64 0, .int .i64 0, .int .i64 0]) 4 32 Try.underlying42 RI.out RZ0.out RZ1.out RZ2.out rfl (by decide) (.slice E acc.length d) acc.length (ptsCells acc) (by simp [Act.eval]) HOW.out ⟨w7.heap.size, 0, none⟩ 4 4 (ptsCells [(a, Z), (a, a), (a, Y), (a, a)]) (by simp [Act.eval]) HLN.out HNEW.out (pts_one _) (by decide) HMX.out HBY.out HBS.out (w7.heap.size + 1) (by simp) ?_; intro g3 c3 w3 hown3 hg3 hat3 hlt3; have HBF := Lib.hid (HBB.out.grown hg3 HBS.out (fun kk e => (HOW.out.lt kk e).1)); have HG3 := Lib.hid hown3; have H48 := Lib.hid (four_grown (H47.out.below (below1 w7 _)) hg3 (fun kk e => HFAR.out kk e)); obtain ⟨⟨m0, m1⟩, ⟨m2, m3⟩, ⟨m4, m5⟩, m6, m7⟩ := H48.out.cells; clear hown3 hg3 hat3) | fail)
        have HLA : Hid ((acc ++ [(a, Z), (a, a), (a, Y), (a, a)]).length = acc.length + 4) := by show _ = _; simp
        go_wp2
        go_roundw
        case rel => exact ⟨y, acc ++ [(a, Z), (a, a), (a, Y), (a, a)], by omega, hyn, by go_num, ⟨some ⟨g3, 0, none⟩, c3, by rw [HLA.out], by rw [HLA.out, pts_app]; exact HG3.out, by rw [List.append_assoc]; exact HAC.out⟩, HBF.out⟩
        case measure => simp [intOf]; omega
      · obtain ⟨⟨i0, i1'⟩, ⟨i2, i3⟩, ⟨i4, i5⟩, i6, i7⟩ := H45.out.cells
        go_wp2_with (refine wpList_load_row_g rfl 55 (.tmp 2) rfl w.heap.size rfl 55 (squadCells W W.length) (0, 0) _ HS5.out Try.underlying55 rfl size_squad ?_)
        have hm0 := HMILD.out 0
        have hm1 := HMILD.out 1
        have hmy := HMILD.out y
        refine (fetchGain_any W Y w5 hm0.1 hm0.2 hm1.1 hm1.2 (by rw [HY.out]; exact hmy.1) (by rw [HY.out]; exact hmy.2)).mono ?_
        rintro e w4 ⟨rfl, hb⟩
        clear hm0 hm1 hmy i0 i1' i2 i3 i4 i5 i6 i7
        have hg0 : (wk W 0).2 + Y.2 - 2 * (wk W 1).2 = gainOf W y := by rw [HY.out]; rfl
        rw [hg0]
        clear hg0
        have H44 := Lib.hid (H45.out.below hb)
        have HO4 := Lib.hid (own_below HO5.out hb)
        have HB4 := Lib.hid (below_then HB5.out hb hz5)
        have hz4 : W1.heap.size ≤ w4.heap.size := Nat.le_trans hz5 hb.size
        clear hb H45 HO5 HB5 hz5 HS5
        have H45 := H44
        have HO5 := HO4
        have HB5 := HB4
        have hz5 := hz4
        clear H44 HO4 HB4 hz4
        obtain ⟨w5, rfl⟩ : ∃ w5 : World, w5 = w4 := ⟨_, rfl⟩
        obtain ⟨⟨i0, i1'⟩, ⟨i2, i3⟩, ⟨i4, i5⟩, i6, i7⟩ := H45.out.cells
        generalize hge : gainOf W y = gn
        by_cases hgp : 0 < gn
        · have HAC : Hid (acc ++ ([(a, b), (a, a), (Y, Z), (b, b)] ++ tripsT true W y) = tripsT true W W.length) := by show _ = _; rw [← HACC.out, HWA.out, HWB.out, HY.out, HZ.out, HZY.out, round, if_pos (by rw [hge]; simp [hgp])]
          have hgd : decide (0 < gn) = true := by simp [hgp]
          clear hge
          go_wp2_with fail
          go_region_held3 (fun w' => (w'.cell? ⟨p, 0, none⟩ = some (.int .i64 a.1) ∧ w'.cell? ⟨p, 1, none⟩ = some (.int .i64 a.2)) ∧ (w'.cell? ⟨q, 0, none⟩ = some (.int .i64 b.1) ∧ w'.cell? ⟨q, 1, none⟩ = some (.int .i64 b.2)) ∧ (w'.cell? ⟨r, 0, none⟩ = some (.int .i64 Y.1) ∧ w'.cell? ⟨r, 1, none⟩ = some (.int .i64 Y.2)) ∧ (w'.cell? ⟨t, 0, none⟩ = some (.int .i64 Z.1) ∧ w'.cell? ⟨t, 1, none⟩ = some (.int .i64 Z.2))) (go_keep)
          (first | (go_at_call 35; refine (alone_any b _).mono ?_; rintro e w7 ⟨rfl, hb7⟩; have hs7 : w6.heap.size ≤ w7.heap.size := hb7.size; have H47 := Lib.hid (H46.out.below hb7); obtain ⟨⟨l0, l1⟩, ⟨l2, l3⟩, ⟨l4, l5⟩, l6, l7⟩ := H47.out.cells; have HO7 := Lib.hid (own_below HO6.out hb7); have HB7 := Lib.hid (below_then HB6.out hb7 (Nat.le_trans hz5 hs6)); have HOW := Lib.hid (HO7.out.alloc (.cells (ptsCells [(a, b), (a, a), (Y, Z), (b, b)]).toArray 60)); have HBB := Lib.hid (HB7.out.alloc (Nat.le_trans hz5 (Nat.le_trans hs6 hs7)) (.cells (ptsCells [(a, b), (a, a), (Y, Z), (b, b)]).toArray 60)); have HNEW := Lib.hid (pts_news w7 [(a, b), (a, a), (Y, Z), (b, b)]); have HLN := Lib.hid (pts_len [(a, b), (a, a), (Y, Z), (b, b)]); have HMX := Lib.hid (show acc.length + 4 ≤ maxLen from (by unfold maxLen; omega)); have HBY := Lib.hid (show (acc.length + 4) * 32 ≤ 140737488355328 from (by omega)); have HBS := Lib.hid (show W1.heap.size ≤ (w7.alloc (.cells (ptsCells [(a, b), (a, a), (Y, Z), (b, b)]).toArray 60)).heap.size from (by simp; omega)); clear hb7) | (go_at_call 35; refine (alone_any a _).mono ?_; rintro e w6 ⟨rfl, hb6⟩; have hs6 : w5.heap.size ≤ w6.heap.size := hb6.size; have H46 := Lib.hid ((H45.out.below (Below.refl w5.heap.size w5).drew).below hb6); obtain ⟨⟨j0, j1⟩, ⟨j2, j3⟩, ⟨j4, j5⟩, j6, j7⟩ := H46.out.cells; have HO6 := Lib.hid (own_below (own_below HO5.out (Below.refl w5.heap.size w5).drew) hb6); have HB6 := Lib.hid (below_then HB5.out.drew hb6 hz5); clear hb6) | (refine step_append_lies _ rfl (.tmp 67) (.tmp 78) 42 rfl W1.heap.size 60 i1 (.agg #[.int .i64 0, .int .i64 0, .int .i64 0, .int .i64 0]) 4 32 Try.underlying42 RI.out RZ0.out RZ1.out RZ2.out rfl (by decide) (.slice E acc.length d) acc.length (ptsCells acc) (by simp [Act.eval]) HOW.out ⟨w7.heap.size, 0, none⟩ 4 4 (ptsCells [(a, b), (a, a), (Y, Z), (b, b)]) (by simp [Act.eval]) HLN.out HNEW.out (pts_one _) (by decide) HMX.out HBY.out HBS.out (w7.heap.size + 1) (by simp) ?_; intro g3 c3 w3 hown3 hg3 hat3 hlt3; have HBF := Lib.hid (HBB.out.grown hg3 HBS.out (fun kk e => (HOW.out.lt kk e).1)); have HG3 := Lib.hid hown3; have H48 := Lib.hid (four_grown (H47.out.below (below1 w7 _)) hg3 (fun kk e => HFAR.out kk e)); obtain ⟨⟨m0, m1⟩, ⟨m2, m3⟩, ⟨m4, m5⟩, m6, m7⟩ := H48.out.cells; clear hown3 hg3 hat3) | fail)
          have HLA : Hid ((acc ++ [(a, b), (a, a), (Y, Z), (b, b)]).length = acc.length + 4) := by show _ = _; simp
          go_wp2
          go_roundw
          case rel => exact ⟨y, acc ++ [(a, b), (a, a), (Y, Z), (b, b)], by omega, hyn, by go_num, ⟨some ⟨g3, 0, none⟩, c3, by rw [HLA.out], by rw [HLA.out, pts_app]; exact HG3.out, by rw [List.append_assoc]; exact HAC.out⟩, HBF.out⟩
          case measure => simp [intOf]; omega
        · have HAC : Hid (acc ++ ([(a, Z), (a, a), (a, Y), (a, a)] ++ tripsT true W y) = tripsT true W W.length) := by show _ = _; rw [← HACC.out, HWA.out, HY.out, HZ.out, HZY.out, round, if_neg (by rw [hge]; simp; omega)]
          have hgd : decide (0 < gn) = false := by simp; omega
          clear hge
          go_wp2_with fail
          go_region_held3 (fun w' => (w'.cell? ⟨p, 0, none⟩ = some (.int .i64 a.1) ∧ w'.cell? ⟨p, 1, none⟩ = some (.int .i64 a.2)) ∧ (w'.cell? ⟨q, 0, none⟩ = some (.int .i64 b.1) ∧ w'.cell? ⟨q, 1, none⟩ = some (.int .i64 b.2)) ∧ (w'.cell? ⟨r, 0, none⟩ = some (.int .i64 Y.1) ∧ w'.cell? ⟨r, 1, none⟩ = some (.int .i64 Y.2)) ∧ (w'.cell? ⟨t, 0, none⟩ = some (.int .i64 Z.1) ∧ w'.cell? ⟨t, 1, none⟩ = some (.int .i64 Z.2))) (go_keep)
          (first | (go_at_call 35; refine (alone_any a _).mono ?_; rintro e w7 ⟨rfl, hb7⟩; have hs7 : w6.heap.size ≤ w7.heap.size := hb7.size; have H47 := Lib.hid (H46.out.below hb7); obtain ⟨⟨l0, l1⟩, ⟨l2, l3⟩, ⟨l4, l5⟩, l6, l7⟩ := H47.out.cells; have HO7 := Lib.hid (own_below HO6.out hb7); have HB7 := Lib.hid (below_then HB6.out hb7 (Nat.le_trans hz5 hs6)); have HOW := Lib.hid (HO7.out.alloc (.cells (ptsCells [(a, Z), (a, a), (a, Y), (a, a)]).toArray 60)); have HBB := Lib.hid (HB7.out.alloc (Nat.le_trans hz5 (Nat.le_trans hs6 hs7)) (.cells (ptsCells [(a, Z), (a, a), (a, Y), (a, a)]).toArray 60)); have HNEW := Lib.hid (pts_news w7 [(a, Z), (a, a), (a, Y), (a, a)]); have HLN := Lib.hid (pts_len [(a, Z), (a, a), (a, Y), (a, a)]); have HMX := Lib.hid (show acc.length + 4 ≤ maxLen from (by unfold maxLen; omega)); have HBY := Lib.hid (show (acc.length + 4) * 32 ≤ 140737488355328 from (by omega)); have HBS := Lib.hid (show W1.heap.size ≤ (w7.alloc (.cells (ptsCells [(a, Z), (a, a), (a, Y), (a, a)]).toArray 60)).heap.size from (by simp; omega)); clear hb7) | (go_at_call 35; refine (alone_any a _).mono ?_; rintro e w6 ⟨rfl, hb6⟩; have hs6 : w5.heap.size ≤ w6.heap.size := hb6.size; have H46 := Lib.hid ((H45.out.below (Below.refl w5.heap.size w5).drew).below hb6); obtain ⟨⟨j0, j1⟩, ⟨j2, j3⟩, ⟨j4, j5⟩, j6, j7⟩ := H46.out.cells; have HO6 := Lib.hid (own_below (own_below HO5.out (Below.refl w5.heap.size w5).drew) hb6); have HB6 := Lib.hid (below_then HB5.out.drew hb6 hz5); clear hb6) | (refine step_append_lies _ rfl (.tmp 80) (.tmp 91) 42 rfl W1.heap.size 60 i1 (.agg #[.int .i64 0, .int .i64 0, .int .i64 0, .int .i64 0]) 4 32 Try.underlying42 RI.out RZ0.out RZ1.out RZ2.out rfl (by decide) (.slice E acc.length d) acc.length (ptsCells acc) (by simp [Act.eval]) HOW.out ⟨w7.heap.size, 0, none⟩ 4 4 (ptsCells [(a, Z), (a, a), (a, Y), (a, a)]) (by simp [Act.eval]) HLN.out HNEW.out (pts_one _) (by decide) HMX.out HBY.out HBS.out (w7.heap.size + 1) (by simp) ?_; intro g3 c3 w3 hown3 hg3 hat3 hlt3; have HBF := Lib.hid (HBB.out.grown hg3 HBS.out (fun kk e => (HOW.out.lt kk e).1)); have HG3 := Lib.hid hown3; have H48 := Lib.hid (four_grown (H47.out.below (below1 w7 _)) hg3 (fun kk e => HFAR.out kk e)); obtain ⟨⟨m0, m1⟩, ⟨m2, m3⟩, ⟨m4, m5⟩, m6, m7⟩ := H48.out.cells; clear hown3 hg3 hat3) | fail)
          have HLA : Hid ((acc ++ [(a, Z), (a, a), (a, Y), (a, a)]).length = acc.length + 4) := by show _ = _; simp
          go_wp2
          go_roundw
          case rel => exact ⟨y, acc ++ [(a, Z), (a, a), (a, Y), (a, a)], by omega, hyn, by go_num, ⟨some ⟨g3, 0, none⟩, c3, by rw [HLA.out], by rw [HLA.out, pts_app]; exact HG3.out, by rw [List.append_assoc]; exact HAC.out⟩, HBF.out⟩
          case measure => simp [intOf]; omega
end Go.Proofs.Ytpefgleipjjneaa
