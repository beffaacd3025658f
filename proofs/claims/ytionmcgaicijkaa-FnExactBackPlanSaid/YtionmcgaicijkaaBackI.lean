/-
  What is proved: the contract of the program's BackPlan. Conditions: the arguments are read as they lie.
-/
import Derived.Test.YtionmcgaicijkaaBwd
import Derived.Test.YtionmcgaicijkaaBack
namespace Go.Proofs.Ytionmcgaicijkaa
open Go.RowKit Go.Shelf Go.BigFrame

attribute [local go_sem] Oper.semAt_some

theorem fresh_kept {w w' : World} {lo hi : Nat} {ty : TypeId} {A : Option Addr} {xs : List Value} {row : Option Nat} (hf : Fresh w lo hi ty A xs) (hg : w.grownBy w' row) (hr : ∀ r, row = some r → ∃ o : Obj, w.heap[r]? = some o ∧ o.isCells = false) : Fresh w' lo hi ty A xs := by
  rcases hf with h | ⟨g, cs, hA, h1, h2, hw, h3, h4⟩
  · exact .inl h
  · refine .inr ⟨g, cs, hA, h1, h2, (hg.block g hw.lt (fun e => ?_)).trans hw, h3, h4⟩
    obtain ⟨o, ho, hn⟩ := hr g e.symm
    rw [show w.heap[g]? = _ from hw] at ho
    obtain rfl := Option.some.inj ho
    cases hn
theorem Heads.kept {w w' : World} {lo c : Nat} {A : Option Addr} {rs : List RowV} {row : Option Nat} (h : Heads w lo A c rs) (hg : w.grownBy w' row) (hr : ∀ r, row = some r → ∃ o : Obj, w.heap[r]? = some o ∧ o.isCells = false) : Heads w' lo A c rs := by
  obtain ⟨h1, ps, ⟨k1, k2, k3⟩, h3, h4⟩ := h
  refine ⟨?_, ps, ⟨k1, fun k r p hk hp => ⟨fresh_kept (k2 k r p hk hp).1 hg hr, (k2 k r p hk hp).2⟩, k3⟩, fun p hp => ⟨(h3 p hp).1, Nat.le_trans (h3 p hp).2 hg.size⟩, h4⟩
  obtain ⟨hl, h | ⟨g, cap, cur, hv, hgb, hh, r⟩⟩ := h1
  · exact ⟨hl, .inl h⟩
  · refine ⟨hl, .inr ⟨g, cap, cur, hv, hgb, (hg.block g (Array.getElem?_eq_some_iff.1 hh).1 (fun e => ?_)).trans hh, r⟩⟩
    obtain ⟨o, ho, hn⟩ := hr g e.symm
    rw [hh] at ho
    obtain rfl := Option.some.inj ho
    cases hn
theorem stepIn_append_lies {l n : Nat} {P : Program} {o : Oper} {a : Act} {w : World} {K : Act → World → Prop} {Q : Exit → Act → World → Prop} (s x : Operand) (t : TypeId)
    (ho : o.op = .call { callee := .builtin .append, args := #[s, x], argTypes := #[t, t] })
    (base : Nat) (e : TypeId) (i : TypeInfo) (z : Value) (size bytes : Nat) (ht : P.underlying t = some (.slice e)) (hi : P.info? e = some i) (hz : i.zero = some z)
    (hsize : i.size = size) (hby : i.bytes = bytes) (hzs : z.cells.size = size) (hsz : 0 < size)
    (v : Value) (n' : Nat) (xs : List Value) (hs : a.eval s = v) (hown : w.ownsRow base e size v n' xs)
    (ad : Addr) (m c : Nat) (news : List Value) (hx : a.eval x = .slice (some ad) m c) (hl : news.length = m * size) (hnews : ∀ j u, news[j]? = some u → w.cell? (ad.add j) = some u) (h1 : ∀ u ∈ news, u.oneCell' = true)
    (hm : 0 < m) (h63 : n' + m ≤ maxLen) (hbytes : (n' + m) * bytes ≤ 140737488355328) (hbase : base ≤ w.heap.size) (H : Nat) (hH : w.heap.size = H)
    (h : ∀ g cap w', w'.ownsRow base e size (.slice (some ⟨g, 0, none⟩) (n' + m) cap) (n' + m) (xs ++ news) → w.grownBy w' v.ownBlock → (v.ownBlock = some g ∨ g = H) → g < w'.heap.size → K (a.put o.dst (.slice (some ⟨g, 0, none⟩) (n' + m) cap)) w') : Oper.wpIn (Fence.wide.inRound l) n P o a w K Q := by
  obtain ⟨g, cap, w', hr, h2, h3, h4, h5⟩ := run_append_lies (P := P) w t o.type base e i z size bytes ht hi hz hsize hby hzs hsz v n' xs hown ad m c news hl hnews h1 hm h63 hbytes hbase H hH
  unfold Oper.wpIn
  refine ⟨fun _ _ => trivial, ?_⟩
  rw [Oper.semAt_plain _ _ _ (by rw [ho]; intro c hc'; cases hc')]
  simp [execOp, ho, resolve, invoke, builtin, hs, hx, hr, Result.andThen]
  exact h g cap w' h2 h3 h4 h5
theorem own_fresh0 {w : World} {lo n c : Nat} {ty : TypeId} {A : Option Addr} {xs : List Value} (h : w.ownsRow lo ty 1 (.slice A n c) n xs) : Fresh w lo w.heap.size ty A xs := by
  obtain ⟨A', c', hv, hf⟩ := Fresh.of_own h (Nat.le_refl _)
  obtain ⟨rfl, -⟩ : A = A' ∧ c = c' := by simpa using hv
  exact hf
theorem own_block_cells {w : World} {base n size j : Nat} {e : TypeId} {v : Value} {xs : List Value} {o : Obj} (h : w.ownsRow base e size v n xs) (hj : v.ownBlock = some j) (ho : w.heap[j]? = some o) : o.isCells = true := by
  obtain ⟨-, ⟨rfl, -⟩ | ⟨g, cap, cur, rfl, -, hh, -⟩⟩ := h
  · simp [Value.ownBlock] at hj
  · obtain rfl : g = j := by simpa [Value.ownBlock] using hj
    rw [hh] at ho
    obtain rfl := Option.some.inj ho
    rfl
theorem Heads.set_low {w : World} {lo c b : Nat} {A : Option Addr} {rs : List RowV} (h : Heads w lo A c rs) (hb : b < lo) (o : Nat) (u : Value) : Heads (w.setCell ⟨b, o, none⟩ u) lo A c rs := by
  obtain ⟨h1, ps, ⟨k1, k2, k3⟩, h3, h4⟩ := h
  refine ⟨ownsRow_setCell_below h1 (a := ⟨b, o, none⟩) hb u, ps, ⟨k1, fun k r p hk hp => ⟨(k2 k r p hk hp).1.set_out (.inl (by have := (h3 p (List.mem_of_getElem? hp)).1; omega)), (k2 k r p hk hp).2⟩, k3⟩, fun p hp => ⟨(h3 p hp).1, by have := (h3 p hp).2; simpa [World.setCell] using this⟩, h4⟩
theorem keeps_below {W W' : World} (h : Below W.heap.size W W') : KeepsOthers W W' := ⟨h.size, fun k _ ho _ => (h.block k (Array.getElem?_eq_some_iff.1 ho).1).trans ho⟩

theorem come_all (ts : List Trip) : (comeUp (behind ts) ts.length).map (fun x => x.2.1) = (tripVals ts).reverse := by
  apply List.ext_getElem
  · simp [comeUp, tripVals]
  · intro i h1 h2
    have hi : i < ts.length := by simpa [comeUp] using h1
    have hj : ts.length - 1 - i < ts.length := by omega
    simp [comeUp, behind, tripVals, List.getElem_reverse, hj]
theorem plan_as {xs : List Int} {n : Nat} {s : Int} {ls : List (List Int)} {w w1 : World} {e : Ending} (hx : xs.length = n) (h : PlanPost xs n s ls w e w1) :
    ∃ (T : Option Addr) (c2 k : Nat) (ts : List Trip) (okb : Bool), e = .returned (.tuple #[.slice T k c2, .bool okb]) ∧ k ≤ 40 ∧ CrowdsAt w1.heap.size w1 T k c2 ts ∧ backed xs n s ls = (tripVals ts).reverse ∧ planOk xs n s ls = okb ∧ Below w.heap.size w w1 := by
  rcases h with ⟨⟨hp, T, c2, rfl, base, -, hown⟩ | ⟨hp, rfl⟩, hb⟩
  · have hf : planOk xs n s ls = true := hp
    have hpp := planOk_parts hf
    have h8 := isParty_le hpp.1
    have hpt := plan_trips hpp.2
    have hT := own_holds hown
    obtain ⟨ts, hts⟩ := trips_of (ls := ls) fun l hl => by
      obtain ⟨j, hj, rfl⟩ := List.getElem_of_mem hl
      intro m hm
      obtain ⟨a1, a2, a3⟩ := hpt.2 j hj m hm
      exact ⟨a1, by omega, a3⟩
    refine ⟨T, c2, ls.length, ts, true, rfl, hpt.1, ⟨by rw [← hts]; simp [tripVals], ?_⟩, by simp [backed, hf, hts], hf, hb⟩
    rw [hts]
    obtain ⟨-, ⟨hv, hn0⟩ | ⟨g, cap, cur, hv, -, hh, -⟩⟩ := hown
    · obtain ⟨rfl, -, rfl⟩ : T = none ∧ _ ∧ c2 = 0 := by simpa using hv
      exact .inl ⟨rfl, hn0, rfl⟩
    · obtain ⟨rfl, -⟩ : T = some ⟨g, 0, none⟩ ∧ _ := by simpa using hv
      rcases hT with h | ⟨b, o, hA, hbl, hcc⟩
      · refine .inr ⟨g, 0, rfl, (Array.getElem?_eq_some_iff.1 hh).1, fun j u hu => ?_⟩
        rw [h] at hu
        simp at hu
      · exact .inr ⟨b, o, hA, hbl, hcc⟩
  · have hf : planOk xs n s ls = false := hp
    exact ⟨none, 0, 0, [], false, rfl, by omega, ⟨rfl, .inl ⟨rfl, rfl, rfl⟩⟩, by simp [backed, hf, tripVals], hf, hb⟩

set_option linter.unusedSimpArgs false in
set_option maxRecDepth 100000 in
set_option maxHeartbeats 4000000 in
theorem implBack_any (A D : Option Addr) (n c q z : Nat) (xs : List Int) (rs : List RowV) (s : Int) (w : World) (hA : Holds w A (nums xs)) (hD : Grid w D rs) (hx : xs.length = n) (hz : rs.length = q) (hn : n ≤ 9223372036854775807) (hq : q ≤ 9223372036854775807) :
    Calls Try.prog 42 #[.agg #[.slice A n c, .int .i64 s], .slice D q z] w (BackPost (backed xs n s (rowNums rs)) (planOk xs n s (rowNums rs)) w) := by
  have HX := Lib.hid hx
  have HZ := Lib.hid hz
  have HLS := Lib.hid (rowNums_len rs)
  have hA2 := hA.alloc (.cells #[.slice A n c, .int .i64 s] 33)
  have hD2 := hD.alloc (.cells #[.slice A n c, .int .i64 s] 33)
  have h0 := Whole.fresh w 33 #[.slice A n c, .int .i64 s]
  have hbw := below1 w (.cells #[.slice A n c, .int .i64 s] 33)
  clear hx hz
  refine (callsIn_wide (n := 9)).1 ?_
  refine callsIn_of_wp_marks Try.func42 rfl trivial ?_ rfl
  simp only [Try.ntmps42, List.size_toArray, List.length_cons, List.length_nil, Nat.reduceAdd, Nat.reduceSub, Array.replicate_succ, Array.replicate_zero, List.push_toArray, List.append_toArray, List.nil_append, List.cons_append]
  gi_wp2_with fail
  refine ⟨trivial, ?_⟩
  refine (callsIn_wide.2 (planOf_any A D n c q z xs rs s _ hA2 hD2 HX.out HZ.out hn hq)).mono ?_
  rintro e w1 hpost
  obtain ⟨T, c2, k, ts, okb, rfl, hq40, hca, hbk, hok, hb⟩ := plan_as HX.out hpost
  have HBK := Lib.hid hbk
  have HOK := Lib.hid hok
  have ht := below_then hbw hb (by simp)
  have hwz : w.heap.size < w1.heap.size := by have := hb.size; simp at this; omega
  have HTK := Lib.hid hca.1
  clear hpost hb hD2 h0 hA2 hA hD hbk hok
  gi_wp2_with fail
  refine ⟨trivial, ?_⟩
  refine (back_in Fence.wide 8 trivial rfl _ _ _ _).mono ?_
  rintro e w2 ⟨rfl, rfl⟩
  have bB := (Boxed.new w1 44 (.slice none 0 0)).alloc (.cells #[.slice T k c2] 85)
  have bS := Boxed.new (w1.alloc (.cells #[.slice none 0 0] 44)) 85 (.slice T k c2)
  rw [World.size_alloc] at bS
  have hb10 := ((Below.refl w1.heap.size w1).alloc (Nat.le_refl _) (.cells #[.slice none 0 0] 44)).alloc (by simp) (.cells #[.slice T k c2] 85)
  have hB0 : Below w.heap.size w ((w1.alloc (.cells #[.slice none 0 0] 44)).alloc (.cells #[.slice T k c2] 85)) := (ht.alloc (by omega) _).alloc (by simp; omega) _
  have hca0 := hca.below hb10
  have hsz : ((w1.alloc (.cells #[.slice none 0 0] 44)).alloc (.cells #[.slice T k c2] 85)).heap.size = w1.heap.size + 2 := by simp
  gi_wp2
  obtain ⟨W0, hW0⟩ : ∃ W0, (w1.alloc (.cells #[.slice none 0 0] 44)).alloc (.cells #[.slice T k c2] 85) = W0 := ⟨_, rfl⟩
  rw [hW0] at bB bS hB0 hsz hca0 ⊢
  clear hW0 hb10 hca
  refine wpIn_rangeFunc_ownH rfl (by omega) (gf := 107) (lb := #[.pointer (some ⟨w1.heap.size + 1, 0, none⟩)]) rfl trivial (enters_of Try.func107 (by kernel_rfl) rfl)
    (back_stops Fence.wide _ trivial rfl (by omega) (w1.heap.size + 1) w1.heap.size T k c2 ts (by omega) W0 (by omega) (by omega) bS.cell hca0) KeepB.trans (fun W l o o' hl ho hc hw => ⟨(belowK_b (n₀ := w1.heap.size) (w := W0) (by omega) W l o o' hl ho hc hw), (belowK_b (n₀ := W0.heap.size) (w := W0) (Nat.le_refl _) W l o o' hl ho hc hw).block (w1.heap.size + 1) (by omega)⟩) (Below.refl _ _) (fun _ => rfl)
    (fun pre W => (∃ E d acc, Boxed W w1.heap.size 44 (.slice E (List.length acc) d) ∧ acc.length = pre.length ∧ rowNums acc = pre.map (fun x => x.2.1) ∧ Heads W (w1.heap.size + 2) E d acc ∧ Boxed W (w1.heap.size + 1) 85 (.slice T k c2)) ∧ Below w.heap.size w W)
    (fun _ _ _ => False)
    (OwnFrom.and (Own.from (fun pre X Y row hs hg hr => by obtain ⟨E, d, acc, g1, g2, g3, g4, g5⟩ := hs; exact ⟨E, d, acc, boxed_own _ _ (fun (_ : Unit) => Value.slice E (List.length acc) d) () X Y row g1 hg hr, g2, g3, g4.kept hg hr, boxed_own _ _ (fun (_ : Unit) => Value.slice T k c2) () X Y row g5 hg hr⟩) _) (ownFrom_below (Nat.le_refl _) (by omega)))
    (fun _ _ _ _ _ hs _ _ => hs)
    ⟨⟨none, 0, [], bB, rfl, rfl, Heads.nil _ _, bS⟩, hB0⟩
    (fun x a' W => ∃ Bx, w1.heap.size + 1 < Bx ∧ Whole W Bx 80 (crowdCells x.2.1) ∧ a' = { tmps := #[.agg #[.slice A n c, .int .i64 s], .slice D q z, .pointer (some ⟨w.heap.size, 0, none⟩), undef, .slice none 0 0, .bool false, .slice T k c2, .bool okb, .pointer (some ⟨w1.heap.size, 0, none⟩), undef, .pointer (some ⟨Bx, 0, none⟩), .tuple #[.slice T k c2, .bool okb], .agg #[.slice A n c, .int .i64 s], .slice D q z, .tuple #[.slice T k c2, .bool okb], .slice T k c2, .bool okb, .slice T k c2, .func (.func 107) #[] #[.pointer (some ⟨w1.heap.size + 1, 0, none⟩)], .int .i64 (x.1 : Int), .agg (crowdCells x.2.1), undef, undef, undef, undef, undef, undef, undef], defers := [] })
    (fun x a' _ X Y row hs hg hr => by obtain ⟨Bx, g1, g2, g3⟩ := hs; exact ⟨Bx, g1, (hg.block Bx g2.lt (fun e => by obtain ⟨-, o, ho, hn⟩ := hr Bx e.symm; rw [show X.heap[Bx]? = _ from g2] at ho; obtain rfl := Option.some.inj ho; cases hn)).trans g2, g3⟩)
    ?assign ?body ?done ?stop
  case assign =>
    rintro l pre x W K ⟨⟨E, d, acc, g1, g2, g3, g4, g5⟩, hB1⟩ hK
    unfold crowdCells
    gi_wp2
    have hlt5 := g5.lt
    exact hK _ _ ((KeepsOthers.alloc _ _).from _) ⟨(Below.refl _ W).alloc (by omega) _, Below.heap_alloc W _ _ hlt5⟩ ⟨⟨E, d, acc, g1.alloc _, g2, g3, g4.alloc _, g5.alloc _⟩, hB1.alloc hB1.size _⟩ ⟨W.heap.size, hlt5, Whole.fresh W _ (crowdCells x.2.1), rfl⟩
  case body =>
    rintro l pre x a' W hl ⟨r, hr⟩ ⟨⟨E, d, acc, g1, g2, g3, g4, g5⟩, hB1⟩ ⟨Bx, hBx, hX, rfl⟩ hlt
    unfold crowdCells
    obtain ⟨m0, m1, m2, m3, m4, m5, m6, m7⟩ := crowd_cells hX
    have cB := g1.cell
    have fB := g1.frozen
    have hwr : w1.heap.size + 2 ≤ W.heap.size := by have := g5.lt; omega
    obtain ⟨i0, hi, hz0, hz1, hz2⟩ := info_parts info_row
    have HI := Lib.hid hi
    have HZ0 := Lib.hid hz0
    have HZ1 := Lib.hid hz1
    have HZ2 := Lib.hid hz2
    have hl8 : x.2.1.length ≤ 8 := by
      have h := upTo_len x.2.1 8
      rw [upTo_all x.2.2 (by omega)] at h
      exact h
    have G2 := Lib.hid g2
    have G3 := Lib.hid g3
    have HMAX := Lib.hid (show acc.length + 1 ≤ maxLen by unfold maxLen; omega)
    have HBYT := Lib.hid (show (acc.length + 1) * 24 ≤ 140737488355328 by omega)
    clear g2 g3 hi hz0 hz1 hz2
    have HLI := fun W' : World => Lib.hid (list_any x.2.1 7 W' x.2.2 (by omega))
    unfold crowdCells at HLI
    refine wpIn_block ?_
    refine wpIn_region_any (by kernel_rfl) ?_
    change wpAnyIn _ _ _ _ _ _ _ _ _ (World.drew _)
    -- WALK
    refine wpAnyIn_ready (rs := [0, 1]) (by kernel_rfl) (by simp) (allReadyIn_want rfl rfl (fun K hK => ?_) (allReadyIn_want rfl rfl (fun K hK => ?_) AllReadyIn.nil))
    · go_simp
      refine hK _ _ ?_
      clear hK K
      try simp only [Act.put, List.setIfInBounds_toArray, List.set_cons_zero, List.set_cons_succ]
      refine wpAnyIn_ready (rs := [1]) (by kernel_rfl) (by simp) (allReadyIn_want rfl rfl (fun K hK => ?_) AllReadyIn.nil)
      go_simp
      refine hK _ _ ?_
      clear hK K
      try simp only [Act.put, List.setIfInBounds_toArray, List.set_cons_zero, List.set_cons_succ]
      refine wpAnyIn_ready (rs := [2]) (by kernel_rfl) (by simp) (allReadyIn_want rfl rfl (fun K hK => ?_) AllReadyIn.nil)
      go_simp
      refine ⟨trivial, ?_⟩
      refine (CallsIn.inRound l (callsIn_wide.2 (HLI _).out)).mono ?_
      rintro e w2 ⟨A2, q2, rfl, hown2, hb2⟩
      have hq1 : Boxed w2 w1.heap.size 44 (.slice E acc.length d) := (hb2.block _ g1.lt).trans g1
      have cB2 := hq1.cell
      have fB2 := hq1.frozen
      have cB3 := (hq1.alloc (.cells #[.slice A2 x.2.1.length q2] 22)).cell
      have fB3 := (hq1.alloc (.cells #[.slice A2 x.2.1.length q2] 22)).frozen
      refine hK _ _ ?_
      clear hK K
      try simp only [Act.put, List.setIfInBounds_toArray, List.set_cons_zero, List.set_cons_succ]
      refine wpAnyIn_ready (rs := [3]) (by kernel_rfl) (by simp) (allReadyIn_want rfl rfl (fun K hK => ?_) AllReadyIn.nil)
      go_simp
      refine hK _ _ ?_
      clear hK K
      try simp only [Act.put, List.setIfInBounds_toArray, List.set_cons_zero, List.set_cons_succ]
      refine wpAnyIn_ready (rs := [4]) (by kernel_rfl) (by simp) (allReadyIn_want rfl rfl (fun K hK => ?_) AllReadyIn.nil)
      have hbW : Below W.heap.size W w2 := below_then (Below.refl W.heap.size W).drew hb2 (Nat.le_refl _)
      have hszW : W.heap.size ≤ w2.heap.size := hbW.size
      have HO := ((g4.below hbW).alloc (.cells #[.slice A2 x.2.1.length q2] 22)).1
      refine stepIn_append_lies (.tmp 21) (.tmp 24) 44 rfl (w1.heap.size + 2) 22 i0 (.slice none 0 0) 1 24 Try.underlying44 HI.out HZ0.out HZ1.out HZ2.out rfl (by decide) (.slice E acc.length d) acc.length (rowVals acc) rfl HO ⟨w2.heap.size, 0, none⟩ 1 1 [.slice A2 x.2.1.length q2] rfl rfl (cell_one_new _ _ _) (by simp [Value.oneCell']) (by decide) HMAX.out HBYT.out (by simp; omega) (w2.heap.size + 1) (by simp) ?_
      intro g cap w4 hown4 hg4 hat hlt4
      have hsz4 : w2.heap.size + 1 ≤ w4.heap.size := by have := hg4.size; simpa using this
      have hob : ∀ j, (Value.slice E acc.length d).ownBlock = some j → w1.heap.size + 2 ≤ j := fun j hj => (HO.lt j hj).1
      have hq4 : Boxed w4 w1.heap.size 44 (.slice E acc.length d) := (hq1.alloc _).kept hg4 (fun e => by have := hob _ e.symm; omega)
      have hs4 : Boxed w4 (w1.heap.size + 1) 85 (.slice T k c2) := (Boxed.alloc (show Boxed w2 _ _ _ from (hbW.block _ g5.lt).trans g5) _).kept hg4 (fun e => by have := hob _ e.symm; omega)
      have hf2 := own_fresh0 hown2
      have HP := Heads.push (r := ⟨A2, x.2.1.length, q2, x.2.1⟩) g4 hwr hbW hf2 rfl (by show x.2.1.length ≤ _; omega) hown4 hg4 hat
      have hko : KeepsOthers W w4 := ((keeps_below hbW).trans (KeepsOthers.alloc _ _)).trans (KeepsOthers.of_grownBy hg4 (fun j o hj ho => own_block_cells HO hj ho))
      have hkb : Below w1.heap.size W w4 := ((hbW.mono (by omega)).alloc (by omega) (.cells #[.slice A2 x.2.1.length q2] 22)).grown hg4 (by simp; omega) (fun j hj => by have := hob j hj; omega)
      have c4 := hq4.cell
      have f4 := hq4.frozen
      refine hK _ _ ?_
      clear hK K hown4 hg4 hat
      try simp only [Act.put, List.setIfInBounds_toArray, List.set_cons_zero, List.set_cons_succ]
      refine wpAnyIn_ready (rs := [5]) (by kernel_rfl) (by simp) (allReadyIn_want rfl rfl (fun K hK => ?_) AllReadyIn.nil)
      go_simp
      refine hK _ _ ?_
      clear hK K
      try simp only [Act.put, List.setIfInBounds_toArray, List.set_cons_zero, List.set_cons_succ]
      refine wpAnyIn_done (by kernel_rfl) ?_ _
      refine ⟨(hko.trans (KeepsOthers.setCell _ _ _)).from _, ⟨below_set hkb (Nat.le_refl _), ?_⟩, ⟨some ⟨g, 0, none⟩, cap, acc ++ [⟨A2, x.2.1.length, q2, x.2.1⟩], ?_, ?_, ?_, HP.set_low (by omega) _ _, hs4.other (by omega) _⟩, below_set (hB1.trans (hkb.mono (by omega))) (by omega)⟩
      · exact (show Boxed _ _ _ _ from hs4.other (by omega) _).trans g5.symm
      · have h := hq4.set (.slice (some ⟨g, 0, none⟩) (acc.length + 1) cap)
        simpa using h
      · simp [G2.out]
      · rw [show rowNums (acc ++ [⟨A2, x.2.1.length, q2, x.2.1⟩]) = rowNums acc ++ [x.2.1] by simp [rowNums], G3.out, List.map_append]; rfl
    · go_simp
      refine hK _ _ ?_
      clear hK K
      try simp only [Act.put, List.setIfInBounds_toArray, List.set_cons_zero, List.set_cons_succ]
      refine wpAnyIn_ready (rs := [0, 2]) (by kernel_rfl) (by simp) (allReadyIn_want rfl rfl (fun K hK => ?_) (allReadyIn_want rfl rfl (fun K hK => ?_) AllReadyIn.nil))
      · go_simp
        refine hK _ _ ?_
        clear hK K
        try simp only [Act.put, List.setIfInBounds_toArray, List.set_cons_zero, List.set_cons_succ]
        refine wpAnyIn_ready (rs := [2]) (by kernel_rfl) (by simp) (allReadyIn_want rfl rfl (fun K hK => ?_) AllReadyIn.nil)
        go_simp
        refine ⟨trivial, ?_⟩
        refine (CallsIn.inRound l (callsIn_wide.2 (HLI _).out)).mono ?_
        rintro e w2 ⟨A2, q2, rfl, hown2, hb2⟩
        have hq1 : Boxed w2 w1.heap.size 44 (.slice E acc.length d) := (hb2.block _ g1.lt).trans g1
        have cB2 := hq1.cell
        have fB2 := hq1.frozen
        have cB3 := (hq1.alloc (.cells #[.slice A2 x.2.1.length q2] 22)).cell
        have fB3 := (hq1.alloc (.cells #[.slice A2 x.2.1.length q2] 22)).frozen
        refine hK _ _ ?_
        clear hK K
        try simp only [Act.put, List.setIfInBounds_toArray, List.set_cons_zero, List.set_cons_succ]
        refine wpAnyIn_ready (rs := [3]) (by kernel_rfl) (by simp) (allReadyIn_want rfl rfl (fun K hK => ?_) AllReadyIn.nil)
        go_simp
        refine hK _ _ ?_
        clear hK K
        try simp only [Act.put, List.setIfInBounds_toArray, List.set_cons_zero, List.set_cons_succ]
        refine wpAnyIn_ready (rs := [4]) (by kernel_rfl) (by simp) (allReadyIn_want rfl rfl (fun K hK => ?_) AllReadyIn.nil)
        have hbW : Below W.heap.size W w2 := below_then (Below.refl W.heap.size W).drew hb2 (Nat.le_refl _)
        have hszW : W.heap.size ≤ w2.heap.size := hbW.size
        have HO := ((g4.below hbW).alloc (.cells #[.slice A2 x.2.1.length q2] 22)).1
        refine stepIn_append_lies (.tmp 21) (.tmp 24) 44 rfl (w1.heap.size + 2) 22 i0 (.slice none 0 0) 1 24 Try.underlying44 HI.out HZ0.out HZ1.out HZ2.out rfl (by decide) (.slice E acc.length d) acc.length (rowVals acc) rfl HO ⟨w2.heap.size, 0, none⟩ 1 1 [.slice A2 x.2.1.length q2] rfl rfl (cell_one_new _ _ _) (by simp [Value.oneCell']) (by decide) HMAX.out HBYT.out (by simp; omega) (w2.heap.size + 1) (by simp) ?_
        intro g cap w4 hown4 hg4 hat hlt4
        have hsz4 : w2.heap.size + 1 ≤ w4.heap.size := by have := hg4.size; simpa using this
        have hob : ∀ j, (Value.slice E acc.length d).ownBlock = some j → w1.heap.size + 2 ≤ j := fun j hj => (HO.lt j hj).1
        have hq4 : Boxed w4 w1.heap.size 44 (.slice E acc.length d) := (hq1.alloc _).kept hg4 (fun e => by have := hob _ e.symm; omega)
        have hs4 : Boxed w4 (w1.heap.size + 1) 85 (.slice T k c2) := (Boxed.alloc (show Boxed w2 _ _ _ from (hbW.block _ g5.lt).trans g5) _).kept hg4 (fun e => by have := hob _ e.symm; omega)
        have hf2 := own_fresh0 hown2
        have HP := Heads.push (r := ⟨A2, x.2.1.length, q2, x.2.1⟩) g4 hwr hbW hf2 rfl (by show x.2.1.length ≤ _; omega) hown4 hg4 hat
        have hko : KeepsOthers W w4 := ((keeps_below hbW).trans (KeepsOthers.alloc _ _)).trans (KeepsOthers.of_grownBy hg4 (fun j o hj ho => own_block_cells HO hj ho))
        have hkb : Below w1.heap.size W w4 := ((hbW.mono (by omega)).alloc (by omega) (.cells #[.slice A2 x.2.1.length q2] 22)).grown hg4 (by simp; omega) (fun j hj => by have := hob j hj; omega)
        have c4 := hq4.cell
        have f4 := hq4.frozen
        refine hK _ _ ?_
        clear hK K hown4 hg4 hat
        try simp only [Act.put, List.setIfInBounds_toArray, List.set_cons_zero, List.set_cons_succ]
        refine wpAnyIn_ready (rs := [5]) (by kernel_rfl) (by simp) (allReadyIn_want rfl rfl (fun K hK => ?_) AllReadyIn.nil)
        go_simp
        refine hK _ _ ?_
        clear hK K
        try simp only [Act.put, List.setIfInBounds_toArray, List.set_cons_zero, List.set_cons_succ]
        refine wpAnyIn_done (by kernel_rfl) ?_ _
        refine ⟨(hko.trans (KeepsOthers.setCell _ _ _)).from _, ⟨below_set hkb (Nat.le_refl _), ?_⟩, ⟨some ⟨g, 0, none⟩, cap, acc ++ [⟨A2, x.2.1.length, q2, x.2.1⟩], ?_, ?_, ?_, HP.set_low (by omega) _ _, hs4.other (by omega) _⟩, below_set (hB1.trans (hkb.mono (by omega))) (by omega)⟩
        · exact (show Boxed _ _ _ _ from hs4.other (by omega) _).trans g5.symm
        · have h := hq4.set (.slice (some ⟨g, 0, none⟩) (acc.length + 1) cap)
          simpa using h
        · simp [G2.out]
        · rw [show rowNums (acc ++ [⟨A2, x.2.1.length, q2, x.2.1⟩]) = rowNums acc ++ [x.2.1] by simp [rowNums], G3.out, List.map_append]; rfl
      · go_simp
        refine ⟨trivial, ?_⟩
        refine (CallsIn.inRound l (callsIn_wide.2 (HLI _).out)).mono ?_
        rintro e w2 ⟨A2, q2, rfl, hown2, hb2⟩
        have hq1 : Boxed w2 w1.heap.size 44 (.slice E acc.length d) := (hb2.block _ g1.lt).trans g1
        have cB2 := hq1.cell
        have fB2 := hq1.frozen
        have cB3 := (hq1.alloc (.cells #[.slice A2 x.2.1.length q2] 22)).cell
        have fB3 := (hq1.alloc (.cells #[.slice A2 x.2.1.length q2] 22)).frozen
        refine hK _ _ ?_
        clear hK K
        try simp only [Act.put, List.setIfInBounds_toArray, List.set_cons_zero, List.set_cons_succ]
        refine wpAnyIn_ready (rs := [0, 3]) (by kernel_rfl) (by simp) (allReadyIn_want rfl rfl (fun K hK => ?_) (allReadyIn_want rfl rfl (fun K hK => ?_) AllReadyIn.nil))
        · go_simp
          refine hK _ _ ?_
          clear hK K
          try simp only [Act.put, List.setIfInBounds_toArray, List.set_cons_zero, List.set_cons_succ]
          refine wpAnyIn_ready (rs := [3]) (by kernel_rfl) (by simp) (allReadyIn_want rfl rfl (fun K hK => ?_) AllReadyIn.nil)
          go_simp
          refine hK _ _ ?_
          clear hK K
          try simp only [Act.put, List.setIfInBounds_toArray, List.set_cons_zero, List.set_cons_succ]
          refine wpAnyIn_ready (rs := [4]) (by kernel_rfl) (by simp) (allReadyIn_want rfl rfl (fun K hK => ?_) AllReadyIn.nil)
          have hbW : Below W.heap.size W w2 := below_then (Below.refl W.heap.size W).drew hb2 (Nat.le_refl _)
          have hszW : W.heap.size ≤ w2.heap.size := hbW.size
          have HO := ((g4.below hbW).alloc (.cells #[.slice A2 x.2.1.length q2] 22)).1
          refine stepIn_append_lies (.tmp 21) (.tmp 24) 44 rfl (w1.heap.size + 2) 22 i0 (.slice none 0 0) 1 24 Try.underlying44 HI.out HZ0.out HZ1.out HZ2.out rfl (by decide) (.slice E acc.length d) acc.length (rowVals acc) rfl HO ⟨w2.heap.size, 0, none⟩ 1 1 [.slice A2 x.2.1.length q2] rfl rfl (cell_one_new _ _ _) (by simp [Value.oneCell']) (by decide) HMAX.out HBYT.out (by simp; omega) (w2.heap.size + 1) (by simp) ?_
          intro g cap w4 hown4 hg4 hat hlt4
          have hsz4 : w2.heap.size + 1 ≤ w4.heap.size := by have := hg4.size; simpa using this
          have hob : ∀ j, (Value.slice E acc.length d).ownBlock = some j → w1.heap.size + 2 ≤ j := fun j hj => (HO.lt j hj).1
          have hq4 : Boxed w4 w1.heap.size 44 (.slice E acc.length d) := (hq1.alloc _).kept hg4 (fun e => by have := hob _ e.symm; omega)
          have hs4 : Boxed w4 (w1.heap.size + 1) 85 (.slice T k c2) := (Boxed.alloc (show Boxed w2 _ _ _ from (hbW.block _ g5.lt).trans g5) _).kept hg4 (fun e => by have := hob _ e.symm; omega)
          have hf2 := own_fresh0 hown2
          have HP := Heads.push (r := ⟨A2, x.2.1.length, q2, x.2.1⟩) g4 hwr hbW hf2 rfl (by show x.2.1.length ≤ _; omega) hown4 hg4 hat
          have hko : KeepsOthers W w4 := ((keeps_below hbW).trans (KeepsOthers.alloc _ _)).trans (KeepsOthers.of_grownBy hg4 (fun j o hj ho => own_block_cells HO hj ho))
          have hkb : Below w1.heap.size W w4 := ((hbW.mono (by omega)).alloc (by omega) (.cells #[.slice A2 x.2.1.length q2] 22)).grown hg4 (by simp; omega) (fun j hj => by have := hob j hj; omega)
          have c4 := hq4.cell
          have f4 := hq4.frozen
          refine hK _ _ ?_
          clear hK K hown4 hg4 hat
          try simp only [Act.put, List.setIfInBounds_toArray, List.set_cons_zero, List.set_cons_succ]
          refine wpAnyIn_ready (rs := [5]) (by kernel_rfl) (by simp) (allReadyIn_want rfl rfl (fun K hK => ?_) AllReadyIn.nil)
          go_simp
          refine hK _ _ ?_
          clear hK K
          try simp only [Act.put, List.setIfInBounds_toArray, List.set_cons_zero, List.set_cons_succ]
          refine wpAnyIn_done (by kernel_rfl) ?_ _
          refine ⟨(hko.trans (KeepsOthers.setCell _ _ _)).from _, ⟨below_set hkb (Nat.le_refl _), ?_⟩, ⟨some ⟨g, 0, none⟩, cap, acc ++ [⟨A2, x.2.1.length, q2, x.2.1⟩], ?_, ?_, ?_, HP.set_low (by omega) _ _, hs4.other (by omega) _⟩, below_set (hB1.trans (hkb.mono (by omega))) (by omega)⟩
          · exact (show Boxed _ _ _ _ from hs4.other (by omega) _).trans g5.symm
          · have h := hq4.set (.slice (some ⟨g, 0, none⟩) (acc.length + 1) cap)
            simpa using h
          · simp [G2.out]
          · rw [show rowNums (acc ++ [⟨A2, x.2.1.length, q2, x.2.1⟩]) = rowNums acc ++ [x.2.1] by simp [rowNums], G3.out, List.map_append]; rfl
        · go_simp
          refine hK _ _ ?_
          clear hK K
          try simp only [Act.put, List.setIfInBounds_toArray, List.set_cons_zero, List.set_cons_succ]
          refine wpAnyIn_ready (rs := [0]) (by kernel_rfl) (by simp) (allReadyIn_want rfl rfl (fun K hK => ?_) AllReadyIn.nil)
          go_simp
          refine hK _ _ ?_
          clear hK K
          try simp only [Act.put, List.setIfInBounds_toArray, List.set_cons_zero, List.set_cons_succ]
          refine wpAnyIn_ready (rs := [4]) (by kernel_rfl) (by simp) (allReadyIn_want rfl rfl (fun K hK => ?_) AllReadyIn.nil)
          have hbW : Below W.heap.size W w2 := below_then (Below.refl W.heap.size W).drew hb2 (Nat.le_refl _)
          have hszW : W.heap.size ≤ w2.heap.size := hbW.size
          have HO := ((g4.below hbW).alloc (.cells #[.slice A2 x.2.1.length q2] 22)).1
          refine stepIn_append_lies (.tmp 21) (.tmp 24) 44 rfl (w1.heap.size + 2) 22 i0 (.slice none 0 0) 1 24 Try.underlying44 HI.out HZ0.out HZ1.out HZ2.out rfl (by decide) (.slice E acc.length d) acc.length (rowVals acc) rfl HO ⟨w2.heap.size, 0, none⟩ 1 1 [.slice A2 x.2.1.length q2] rfl rfl (cell_one_new _ _ _) (by simp [Value.oneCell']) (by decide) HMAX.out HBYT.out (by simp; omega) (w2.heap.size + 1) (by simp) ?_
          intro g cap w4 hown4 hg4 hat hlt4
          have hsz4 : w2.heap.size + 1 ≤ w4.heap.size := by have := hg4.size; simpa using this
          have hob : ∀ j, (Value.slice E acc.length d).ownBlock = some j → w1.heap.size + 2 ≤ j := fun j hj => (HO.lt j hj).1
          have hq4 : Boxed w4 w1.heap.size 44 (.slice E acc.length d) := (hq1.alloc _).kept hg4 (fun e => by have := hob _ e.symm; omega)
          have hs4 : Boxed w4 (w1.heap.size + 1) 85 (.slice T k c2) := (Boxed.alloc (show Boxed w2 _ _ _ from (hbW.block _ g5.lt).trans g5) _).kept hg4 (fun e => by have := hob _ e.symm; omega)
          have hf2 := own_fresh0 hown2
          have HP := Heads.push (r := ⟨A2, x.2.1.length, q2, x.2.1⟩) g4 hwr hbW hf2 rfl (by show x.2.1.length ≤ _; omega) hown4 hg4 hat
          have hko : KeepsOthers W w4 := ((keeps_below hbW).trans (KeepsOthers.alloc _ _)).trans (KeepsOthers.of_grownBy hg4 (fun j o hj ho => own_block_cells HO hj ho))
          have hkb : Below w1.heap.size W w4 := ((hbW.mono (by omega)).alloc (by omega) (.cells #[.slice A2 x.2.1.length q2] 22)).grown hg4 (by simp; omega) (fun j hj => by have := hob j hj; omega)
          have c4 := hq4.cell
          have f4 := hq4.frozen
          refine hK _ _ ?_
          clear hK K hown4 hg4 hat
          try simp only [Act.put, List.setIfInBounds_toArray, List.set_cons_zero, List.set_cons_succ]
          refine wpAnyIn_ready (rs := [5]) (by kernel_rfl) (by simp) (allReadyIn_want rfl rfl (fun K hK => ?_) AllReadyIn.nil)
          go_simp
          refine hK _ _ ?_
          clear hK K
          try simp only [Act.put, List.setIfInBounds_toArray, List.set_cons_zero, List.set_cons_succ]
          refine wpAnyIn_done (by kernel_rfl) ?_ _
          refine ⟨(hko.trans (KeepsOthers.setCell _ _ _)).from _, ⟨below_set hkb (Nat.le_refl _), ?_⟩, ⟨some ⟨g, 0, none⟩, cap, acc ++ [⟨A2, x.2.1.length, q2, x.2.1⟩], ?_, ?_, ?_, HP.set_low (by omega) _ _, hs4.other (by omega) _⟩, below_set (hB1.trans (hkb.mono (by omega))) (by omega)⟩
          · exact (show Boxed _ _ _ _ from hs4.other (by omega) _).trans g5.symm
          · have h := hq4.set (.slice (some ⟨g, 0, none⟩) (acc.length + 1) cap)
            simpa using h
          · simp [G2.out]
          · rw [show rowNums (acc ++ [⟨A2, x.2.1.length, q2, x.2.1⟩]) = rowNums acc ++ [x.2.1] by simp [rowNums], G3.out, List.map_append]; rfl
    -- END
  case done =>
    rintro D' ys W hD' rfl ⟨⟨E, d, acc, g1, g2, g3, g4, g5⟩, hB1⟩ hK
    have cS := g1.cell
    have G3 := Lib.hid g3
    have G2 := Lib.hid g2
    clear g2 g3
    gi_wp2
    refine ⟨by simp, .inl ⟨_, _, rfl, run_takeDeferred hK, ?_⟩⟩
    have hgr := grownBy_putObj' W D' (.deferred none)
    have hhd := g4.kept hgr (fun r e => by cases e; exact ⟨_, hK, rfl⟩)
    exact ⟨.tuple #[.slice E acc.length d, .bool okb], by simp [results, Try.results42, go_sem], E, acc.length, d, acc, by rw [HOK.out], by rw [HBK.out, G3.out, ← HTK.out, come_all], rfl, hhd.free.more (by omega) (Nat.le_refl _), hB1.trans (belowK_b (w := w) (Nat.le_refl _) W D' _ _ (by omega) hK rfl rfl)⟩
  case stop =>
    rintro D' c' pre W _ _ h _
    exact h.elim
theorem specBack_on (A D : Option Addr) (n c q z : Nat) (xs : List Int) (rs : List RowV) (ls : List (List Int)) (s : Int) (w : World) (hA : Holds w A (nums xs)) (hD : Grid w D rs) (he : rowNums rs = ls) (hx : xs.length = n) (hz : rs.length = q) (hn : n ≤ 9223372036854775807) (hq : q ≤ 9223372036854775807) :
    Calls Try.prog 41 #[.agg #[.slice A n c, .int .i64 s], .slice D q z] w (BackPost (backed xs n s ls) (planOk xs n s ls) w) := by
  subst he
  exact specBack_any A D n c q z xs rs s w hA hD hx hz hn hq
theorem implBack_on (A D : Option Addr) (n c q z : Nat) (xs : List Int) (rs : List RowV) (ls : List (List Int)) (s : Int) (w : World) (hA : Holds w A (nums xs)) (hD : Grid w D rs) (he : rowNums rs = ls) (hx : xs.length = n) (hz : rs.length = q) (hn : n ≤ 9223372036854775807) (hq : q ≤ 9223372036854775807) :
    Calls Try.prog 42 #[.agg #[.slice A n c, .int .i64 s], .slice D q z] w (BackPost (backed xs n s ls) (planOk xs n s ls) w) := by
  subst he
  exact implBack_any A D n c q z xs rs s w hA hD hx hz hn hq
theorem part_lens {w : World} {A : Option Addr} {rs : List RowV} (h : Grid w A rs) : part rs rs.length = ((rowNums rs).map List.length).sum := by
  rw [part_sum]
  have : ∀ ts : List RowV, (∀ r ∈ ts, r.xs.length = r.n) → ts.map RowV.n = (rowNums ts).map List.length := by
    intro ts ht
    simp only [rowNums, List.map_map]
    exact List.map_congr_left fun r hr => (ht r hr).symm
  rw [this rs fun r hr => (h.2 r hr).2.1]
theorem sum_lens {ls : List (List Int)} {k : Nat} (h : ∀ l ∈ ls, l.length ≤ k) : (ls.map List.length).sum ≤ k * ls.length := by
  induction ls with
  | nil => simp
  | cons l ls ih =>
    have h1 := h l (by simp)
    have h2 := ih fun x hx => h x (List.mem_cons_of_mem _ hx)
    rw [List.map_cons, List.sum_cons, List.length_cons, Nat.mul_succ]
    omega
theorem backed_le {xs : List Int} {n : Nat} {s : Int} {ls : List (List Int)} : (backed xs n s ls).length ≤ 1048576 ∧ ((backed xs n s ls).map List.length).sum ≤ 1048576 := by
  unfold backed
  split
  · rename_i h
    have hp := planOk_parts h
    have hs := plan_sizes hp.2
    have h8 := seats_le hp.1
    have := sum_lens (ls := ls.reverse) (k := 8) fun l hl => by
      have := hs.2 l (by simpa using hl)
      omega
    have h40 := hs.1
    rw [List.length_reverse] at this ⊢
    omega
  · simp
end Go.Proofs.Ytionmcgaicijkaa
