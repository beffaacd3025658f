/-
  What is proved: laws of a slice of the call's own that may begin anywhere in its row (a queue that is cut at its head): what is appended to it, how its head is cut off. Conditions: as each says.
-/
import Derived.Deep.AppendLies
import Derived.Test.YthldpihiphjjpaaJ5FewestRows
namespace Go.Proofs.Ythldpihiphjjpaa
open Go.RowKit

/-- A slice of the call's own whose first element may lie anywhere in its block. -/
def Win (w : World) (base : Nat) (e : TypeId) (size : Nat) (v : Value) (n : Nat) (xs : List Value) : Prop :=
  xs.length = n * size ∧ ∃ g o cap cur, v = .slice (some ⟨g, o, none⟩) n cap ∧ base ≤ g ∧ w.heap[g]? = some (.cells cur e (0, 0)) ∧ n ≤ cap ∧ cap ≤ maxLen ∧ o + cap * size ≤ cur.size ∧ (cur.toList.drop o).take (n * size) = xs

section
variable {w w' : World} {base n size : Nat} {e : TypeId} {v : Value} {xs : List Value}
theorem Win.below (h : Win w base e size v n xs) (hb : Below w.heap.size w w') : Win w' base e size v n xs := by
  obtain ⟨h1, g, o, cap, cur, h2, h3, h4, r⟩ := h
  exact ⟨h1, g, o, cap, cur, h2, h3, (hb.block g (Array.getElem?_eq_some_iff.1 h4).1).trans h4, r⟩
theorem Win.kept {row : Option Nat} (h : Win w base e size v n xs) (hg : w.grownBy w' row) (hne : v.ownBlock ≠ row) : Win w' base e size v n xs := by
  obtain ⟨h1, g, o, cap, cur, rfl, h3, h4, r⟩ := h
  exact ⟨h1, g, o, cap, cur, rfl, h3, (hg.block g (Array.getElem?_eq_some_iff.1 h4).1 hne).trans h4, r⟩
theorem Win.alloc (h : Win w base e size v n xs) (o : Obj) : Win (w.alloc o) base e size v n xs := h.below (below1 w o)
theorem Win.drew (h : Win w base e size v n xs) : Win w.drew base e size v n xs := h
theorem Win.off {b o : Nat} {u : Value} (h : Win w base e size v n xs) (hb : b < base) : Win (w.setCell ⟨b, o, none⟩ u) base e size v n xs := by
  obtain ⟨h1, g, o', cap, cur, h2, h3, h4, r⟩ := h
  exact ⟨h1, g, o', cap, cur, h2, h3, (Below.heap_setCell w ⟨b, o, none⟩ u g (by show g ≠ b; omega)).trans h4, r⟩
theorem Win.lt (h : Win w base e size v n xs) : ∀ k, v.ownBlock = some k → base ≤ k ∧ k < w.heap.size := by
  obtain ⟨h1, g, o, cap, cur, rfl, h3, h4, r⟩ := h
  intro k hk
  obtain rfl : g = k := by simpa [Value.ownBlock] using hk
  exact ⟨h3, (Array.getElem?_eq_some_iff.1 h4).1⟩
theorem Win.cellAt (h : Win w base e size v n xs) : ∃ g o cap, v = .slice (some ⟨g, o, none⟩) n cap ∧ base ≤ g ∧ g < w.heap.size ∧ n ≤ cap ∧ cap ≤ maxLen ∧ ∀ j u, xs[j]? = some u → w.cell? ⟨g, o + j, none⟩ = some u := by
  obtain ⟨h1, g, o, cap, cur, rfl, h3, h4, h5, h6, h7, h8⟩ := h
  refine ⟨g, o, cap, rfl, h3, (Array.getElem?_eq_some_iff.1 h4).1, h5, h6, fun j u hu => ?_⟩
  rw [← h8, List.getElem?_take] at hu
  split at hu
  · rw [List.getElem?_drop] at hu
    simp only [World.cell?, h4]
    simpa using hu
  · cases hu
/-- The first element is cut off. -/
def cutV (g o n cap size : Nat) : Value := .slice (some (if cap = 1 then ⟨g, o, none⟩ else ⟨g, o + size, none⟩)) n (cap - 1)
theorem Win.cut {g o cap : Nat} {x ys : List Value} (h : Win w base e size (.slice (some ⟨g, o, none⟩) (n + 1) cap) (n + 1) (x ++ ys)) (hx : x.length = size) : Win w base e size (cutV g o n cap size) n ys := by
  obtain ⟨h1, g', o', cap', cur, hv, h3, h4, h5, h6, h7, h8⟩ := h
  obtain ⟨⟨rfl, rfl⟩, rfl⟩ : (g = g' ∧ o = o') ∧ cap = cap' := by simpa using hv
  have hl : ys.length = n * size := by rw [List.length_append, hx, Nat.add_mul] at h1; omega
  have hys : (cur.toList.drop (o + size)).take (n * size) = ys := by
    have h9 := congrArg (List.drop size) h8
    rw [List.drop_left' hx, List.drop_take, List.drop_drop] at h9
    rw [← h9, show (n + 1) * size - size = n * size by rw [Nat.add_mul]; omega]
  by_cases hc : cap = 1
  · subst hc
    obtain rfl : n = 0 := by omega
    obtain rfl : ys = [] := List.eq_nil_of_length_eq_zero (by omega)
    exact ⟨by simp, g, o, 0, cur, by simp [cutV], h3, h4, Nat.le_refl _, by unfold maxLen; omega, by omega, by simp⟩
  · have e1 : (cap - 1) * size + size = cap * size := by
      obtain ⟨c, rfl⟩ : ∃ c, cap = c + 1 := ⟨cap - 1, by omega⟩
      rw [Nat.add_sub_cancel, Nat.add_mul]; omega
    exact ⟨hl, g, o + size, cap - 1, cur, by simp [cutV, hc], h3, h4, by omega, by omega, by omega, hys⟩
end
theorem Win.made (w : World) (base : Nat) (e : TypeId) (cs : Array Value) (hb : base ≤ w.heap.size) : Win (w.alloc (.cells cs e)) base e cs.size (.slice (some ⟨w.heap.size, 0, none⟩) 1 1) 1 cs.toList :=
  ⟨by simp, w.heap.size, 0, 1, cs, rfl, hb, Whole.fresh w e cs, Nat.le_refl _, by unfold maxLen; omega, by simp, by rw [Nat.one_mul, List.drop_zero, List.take_of_length_le (by simp)]⟩

theorem add_at (g o j : Nat) : (⟨g, o, none⟩ : Addr).add j = ⟨g, o + j, none⟩ := by unfold Addr.add; split <;> simp_all
theorem add_at0 (g o : Nat) (spot : Option Nat) (h : spot = none) (j : Nat) : (⟨g, o, spot⟩ : Addr).add j = ⟨g, o + j, none⟩ := by subst h; exact add_at g o j

theorem run_append_win {P : Program} (w : World) (base : Nat) (t ty e : TypeId) (i : TypeInfo) (z : Value) (size bytes : Nat) (ht : P.underlying t = some (.slice e)) (hi : P.info? e = some i) (hz : i.zero = some z)
    (hsize : i.size = size) (hby : i.bytes = bytes) (hzs : z.cells.size = size) (v : Value) (n : Nat) (xs : List Value) (hown : Win w base e size v n xs)
    (a : Addr) (m c : Nat) (news : List Value) (hl : news.length = m * size) (hnews : ∀ j u, news[j]? = some u → w.cell? (a.add j) = some u) (h1 : ∀ u ∈ news, u.oneCell' = true)
    (h63 : n + m ≤ maxLen) (hbytes : (n + m) * bytes ≤ 140737488355328) (hbase : base ≤ w.heap.size) :
    ∃ v' w', (Builtin.append_ #[t, t] ty #[v, .slice (some a) m c]).run P w = .ok v' w' ∧ Win w' base e size v' (n + m) (xs ++ news) ∧ w.grownBy w' v.ownBlock ∧ (v'.ownBlock = v.ownBlock ∨ v'.ownBlock = some w.heap.size) := by
  subst hsize hby
  have hlt : n + m ≤ 9223372036854775807 := by simp only [maxLen] at h63; omega
  have hlen : (xs ++ news).length = (n + m) * i.size := by rw [List.length_append, hown.1, hl, Nat.add_mul]
  obtain ⟨g, o, cap, hv, hbg, hgl, -, -, hcell⟩ := hown.cellAt
  obtain ⟨hxl, g', o', cap', cur, hv', -, hg, hnc, hcm, hcs, htake⟩ := hown
  subst hv
  obtain ⟨⟨rfl, rfl⟩, rfl⟩ : (g = g' ∧ o = o') ∧ cap = cap' := by simpa using hv'
  by_cases hroom : n + m ≤ cap
  · have hm2 : (n + m) * i.size ≤ cap * i.size := Nat.mul_le_mul_right _ hroom
    rw [Nat.add_mul] at hm2
    have hfit : o + n * i.size + 0 + news.length ≤ cur.size := by rw [hl]; omega
    have hf := run_firstCells_some (P := P) w i.size m a m c news hl hnews
    have hst := run_storeCells_at P g (o + n * i.size) e news 0 cur w hg hfit h1
    rw [Nat.add_zero] at hst
    refine ⟨.slice (some ⟨g, o, none⟩) (n + m) cap, w.setRow g (cur.toList.take (o + n * i.size) ++ news ++ cur.toList.drop (o + n * i.size + news.length)).toArray, ?_, ⟨hlen, g, o, cap, _, rfl, hbg, setRow_heap w g cur _ e _ hg, hroom, hcm, ?_, ?_⟩, ⟨rfl, rfl, rfl, by simp, fun k _ hk => setRow_other w g k _ (fun e => hk (by simp [Value.ownBlock, e]))⟩, .inl rfl⟩
    · simp [Builtin.append_, run_underlying ht, sizeOf, typeInfo, hi, Builtin.lenOf, hroom, hf, add_at, hst]
    · simp only [List.size_toArray, List.length_append, List.length_take, List.length_drop, Array.length_toList]
      omega
    · have hcl : o + n * i.size ≤ cur.toList.length := by simp; omega
      have e1 : cur.toList.take (o + n * i.size) = cur.toList.take o ++ xs := by rw [List.take_add, htake]
      rw [e1, List.append_assoc, List.append_assoc, List.drop_append_of_le_length (by simp; omega), List.drop_of_length_le (by simp; omega), List.nil_append, ← List.append_assoc, ← hlen]
      exact List.take_left
  · have holds : ∀ j u, xs[j]? = some u → w.cell? ((⟨g, o, none⟩ : Addr).add j) = some u := fun j u hu => by rw [add_at]; exact hcell j u hu
    have hr := run_append_grow (P := P) w t ty e i z ht hi hz ⟨g, o, none⟩ n cap xs hxl holds a m c news hl hnews (by omega) (by omega) (growslice_fits (by omega) hbytes)
    have hge := grownCap_ge w (n + m) cap e
    have hcm2 : grownCap w (n + m) cap e ≤ maxLen := grownCap_le_maxLen w (n + m) cap e h63
    refine ⟨_, _, hr, ⟨hlen, w.heap.size, 0, _, _, rfl, hbase, heap_alloc_new w.drew _, hge, hcm2, ?_, ?_⟩, ⟨rfl, rfl, rfl, by simp, fun k hk _ => Below.heap_alloc w.drew _ k hk⟩, .inr rfl⟩
    · have e2 : (n + m) * i.size + (grownCap w (n + m) cap e - (n + m)) * i.size = grownCap w (n + m) cap e * i.size := by rw [← Nat.add_mul]; congr 1; omega
      simp only [Array.size_append, List.size_toArray, size_zeroCells, hzs, hxl, hl, Nat.zero_add]
      rw [Nat.add_mul] at e2
      omega
    · simp only [Array.toList_append, List.append_assoc, List.drop_zero]
      rw [← List.append_assoc, ← hlen]
      exact List.take_left

theorem wpList_append_win {P : Program} (w : World) {ops : Array Oper} {rest : List Oper} {o : Oper} {a : Act} {Q : Exit → Act → World → Prop} (hgd : o.guard = none) (s x : Operand) (t : TypeId)
    (ho : o.op = .call { callee := .builtin .append, args := #[s, x], argTypes := #[t, t] })
    (base : Nat) (e : TypeId) (i : TypeInfo) (z : Value) (size bytes : Nat) (ht : P.underlying t = some (.slice e)) (hi : P.info? e = some i) (hz : i.zero = some z)
    (hsize : i.size = size) (hby : i.bytes = bytes) (hzs : z.cells.size = size) (v : Value) (n : Nat) (xs : List Value) (hs : a.eval s = v) (hown : Win w base e size v n xs)
    (ad : Addr) (m c : Nat) (news : List Value) (hx : a.eval x = .slice (some ad) m c) (hl : news.length = m * size) (hnews : ∀ j u, news[j]? = some u → w.cell? (ad.add j) = some u) (h1 : ∀ u ∈ news, u.oneCell' = true)
    (h63 : n + m ≤ maxLen) (hbytes : (n + m) * bytes ≤ 140737488355328) (hbase : base ≤ w.heap.size)
    (h : ∀ v' w', Win w' base e size v' (n + m) (xs ++ news) → w.grownBy w' v.ownBlock → (v'.ownBlock = v.ownBlock ∨ v'.ownBlock = some w.heap.size) → wpList P ops Q rest (a.put o.dst v') w') : wpList P ops Q (o :: rest) a w := by
  refine wpList_plain hgd fun K hK => ?_
  obtain ⟨v', w', hr, h2, h3, h4⟩ := run_append_win (P := P) w base t o.type e i z size bytes ht hi hz hsize hby hzs v n xs hown ad m c news hl hnews h1 h63 hbytes hbase
  unfold Oper.wp execOp
  simp only [ho, resolve, invoke, builtin, Sem.run_bind, Sem.run_pure, Result.andThen_ok, List.map_toArray, List.map_cons, List.map_nil, hs, hx, hr]
  exact hK _ _ (h v' w' h2 h3 h4)
theorem run_cut {P : Program} (W : World) (t e : TypeId) (size : Nat) (g o n cap : Nat) (ht : P.underlying t = some (.slice e)) (he : P.elem t = e) (hs : (P.info? e).map (·.size) = some size) (hn : n + 1 ≤ cap) :
    (Instr.sliceAt t (.slice (some ⟨g, o, none⟩) (n + 1) cap) (some (.int .i64 1)) none none).run P W = .ok (cutV g o n cap size) W := by
  cases hq : P.info? e with
  | none => simp [hq] at hs
  | some i =>
    have hi : i.size = size := by simpa [hq] using hs
    subst he
    have h0 := run_slice_l (P := P) W t (some ⟨g, o, none⟩) (n + 1) cap ht .i64 1 (by omega) (by omega)
    rw [run_sliceAt_slice W t _ _ _ _ ht, h0]
    by_cases hc : cap = 1
    · subst hc
      simp [sizeOf, typeInfo, hq, hi, cutV, sliced, Result.andThen]
    · have hc2 : ¬ (1 = cap) := fun h => hc h.symm
      simp [sizeOf, typeInfo, hq, hi, cutV, sliced, Result.andThen, hc, hc2, add_at]
end Go.Proofs.Ythldpihiphjjpaa
