/-
  What is proved: the contract of the program's crew with a person who can or cannot row. Conditions: what is asked of a crew's people, as many rows as people, and a person of it.
-/
import Derived.ArgAppend
import Derived.Deep.DeepCutAuto
import Derived.Deep.RegionHeld3
import Derived.Test.YtlpeimlbpiofkaaJ1FirstOfCrew
set_option linter.unusedSimpArgs false
set_option linter.unusedVariables false
namespace Go.Proofs.Ytlpeimlbpiofkaa
open Go.RowKit

/-- A crew in which the person k rows as told. -/
def rowsSet (bs : List Bool) (k : Nat) (can : Bool) : List Bool := bs.take k ++ [can] ++ bs.drop (k + 1)
theorem rowsSet_len {bs : List Bool} {k : Nat} {can : Bool} (h : k < bs.length) : (rowsSet bs k can).length = bs.length := by simp [rowsSet]; omega
theorem size_crew : (Try.prog.info? 57).map (·.size) = some 3 := by kernel_rfl
theorem tailB_at {w : World} {b o n c k : Nat} {xs : List Bool} (hc : ∀ j u, (bits xs)[j]? = some u → w.cell? ⟨b, o + j, none⟩ = some u) (hx : xs.length = n) (hn : n ≤ c) :
    ∃ d, (if c = k + 1 then some (⟨b, o, none⟩ : Addr) else some ⟨b, o + (k + 1), none⟩) = some ⟨b, d, none⟩ ∧ ∀ j u, (bits (xs.drop (k + 1)))[j]? = some u → w.cell? ⟨b, d + j, none⟩ = some u := by
  by_cases h : c = k + 1
  · refine ⟨o, by simp [h], fun j u hu => ?_⟩
    have h0 : xs.drop (k + 1) = [] := List.drop_eq_nil_of_le (by omega)
    rw [h0] at hu
    simp [bits] at hu
  · refine ⟨o + (k + 1), by simp [h], fun j u hu => ?_⟩
    have := hc (k + 1 + j) u (by simpa [bits, List.getElem?_map, List.getElem?_drop] using hu)
    rw [show o + (k + 1) + j = o + (k + 1 + j) by omega]
    exact this
/-- What a call hands back that makes a crew. -/
def CrewMade (xs : List Int) (bs : List Bool) (s : Int) (w : World) (e : Ending) (w' : World) : Prop :=
  ∃ (E : Option Addr) (c1 : Nat) (F : Option Addr) (c2 : Nat), e = .returned (.agg #[.slice E xs.length c1, .slice F bs.length c2, .int .i64 s]) ∧ Fresh w' w.heap.size w'.heap.size 3 E (nums xs) ∧ Fresh w' w.heap.size w'.heap.size 4 F (bits bs) ∧ Below w.heap.size w w' ∧ xs.length ≤ c1 ∧ c1 ≤ 9223372036854775807
theorem own_caps {w : World} {lo size c n : Nat} {e : TypeId} {A : Option Addr} {xs : List Value} (h : w.ownsRow lo e size (.slice A n c) n xs) : n ≤ c ∧ c ≤ 9223372036854775807 := by
  obtain ⟨-, ⟨hv, h0⟩ | ⟨g, cap, cur, hv, hlo, hh, hnc, hcm, -⟩⟩ := h
  · have h1 := (Value.slice.inj hv)
    omega
  · have h1 := (Value.slice.inj hv).2.2
    unfold maxLen at hcm
    omega

set_option maxHeartbeats 6400000 in
set_option maxRecDepth 100000 in
set_option linter.unusedSimpArgs false in
set_option linter.unusedVariables false in
theorem withRower_any (A : Option Addr) (n c0 b o d : Nat) (xs : List Int) (bs : List Bool) (s : Int) (k : Nat) (can : Bool) (w : World) (hA : Holds w A (nums xs)) (hB : ∀ j u, (bits bs)[j]? = some u → w.cell? ⟨b, o + j, none⟩ = some u) (hbl : b < w.heap.size) (hx : xs.length = n) (hy : bs.length = n) (h1 : 1 ≤ n) (hn7 : n ≤ 7) (hk : k < n) (hd : n ≤ d) (hd2 : d ≤ 1048576) (hnil : A = none → n = 0 ∧ c0 = 0) :
    Calls Try.prog 106 #[.agg #[.slice A n c0, .slice (some ⟨b, o, none⟩) n d, .int .i64 s], .int .i64 k, .bool can] w (CrewMade xs (rowsSet bs k can) s w) := by
  obtain ⟨i0, hi, hz0, hz1, hz2⟩ := info_parts info_bool
  have HI := Lib.hid hi
  have HZ0 := Lib.hid hz0
  have HZ1 := Lib.hid hz1
  have HZ2 := Lib.hid hz2
  have HNIL := Lib.hid hnil
  have HX := Lib.hid hx
  have HY := Lib.hid hy
  have hc := ((Whole.fresh w 57 #[.slice A n c0, .slice (some ⟨b, o, none⟩) n d, .int .i64 s]).alloc (.cells #[.slice none 0 0, .slice none 0 0, .int .i64 0] 57))
  have hr := Whole.fresh (w.alloc (.cells #[.slice A n c0, .slice (some ⟨b, o, none⟩) n d, .int .i64 s] 57)) 57 #[.slice none 0 0, .slice none 0 0, .int .i64 0]
  rw [World.size_alloc] at hr
  have ht := below2 w (.cells #[.slice A n c0, .slice (some ⟨b, o, none⟩) n d, .int .i64 s] 57) (.cells #[.slice none 0 0, .slice none 0 0, .int .i64 0] 57)
  obtain ⟨d0, hd0, hTL⟩ := tailB_at (w := w) (k := k) (c := d) hB hy hd
  have HTA := Lib.hid hd0
  have HTL := Lib.hid hTL
  have hHD : ∀ j u, (bits (bs.take k))[j]? = some u → w.cell? ⟨b, o + j, none⟩ = some u := fun j u hu => hB j u (by simp only [bits, List.getElem?_map, List.getElem?_take] at hu ⊢; split at hu; exact hu; simp at hu)
  have HHD := Lib.hid hHD
  have HKL := Lib.hid (show (bits (bs.take k)).length = k * 1 by simp [bits]; omega)
  clear hi hz0 hz1 hz2 hx hy hTL hHD hB
  go_enter Try.func106, Try.ntmps106
  go_upto_region 1 with fail
  generalize World.alloc (World.alloc w (.cells #[.slice A n c0, .slice (some ⟨b, o, none⟩) n d, .int .i64 s] 57)) (.cells #[.slice none 0 0, .slice none 0 0, .int .i64 0] 57) = w1 at hc hr ht ⊢
  obtain ⟨c1, c2, c3⟩ := hc.cells3
  have hlc := hc.lt
  have hlr := hr.lt
  have hz1 := ht.size
  have K1 := Lib.hid (hc.alloc (.cells #[.bool can] 4))
  have K2 := Lib.hid (hr.alloc (.cells #[.bool can] 4))
  have K3 := Lib.hid (ht.alloc ht.size (.cells #[.bool can] 4))
  have HCN := Lib.hid (cell_one_new w1 (.bool can) 4)
  have HMAX := Lib.hid (show k + 1 ≤ maxLen by unfold maxLen; omega)
  have HBYT := Lib.hid (show (k + 1) * 1 ≤ 140737488355328 by omega)
  have HOL : Hid (∀ b' : Addr, (some ⟨b, o, none⟩ : Option Addr) = some b' → ∀ j u, (bits (bs.take k))[j]? = some u → (w1.alloc (.cells #[.bool can] 4)).cell? (b'.add j) = some u) := fun b' hb' j u hu => by
    obtain rfl : (⟨b, o, none⟩ : Addr) = b' := by simpa using hb'
    rw [show (⟨b, o, none⟩ : Addr).add j = ⟨b, o + j, none⟩ from by unfold Addr.add; split <;> simp_all]
    exact (K3.out.cell (p := ⟨b, o + j, none⟩) hbl).trans (HHD.out j u hu)
  clear hc hr ht
  go_upto_region 2 with (at_builtin; refine wpList_append_grows _ rfl (.tmp 12) (.tmp 14) 38 rfl 4 i0 (.bool false) 1 1 Try.underlying38 HI.out HZ0.out HZ1.out HZ2.out rfl (by decide) (some ⟨b, o, none⟩) k k (bits (bs.take k)) rfl (fun h => by cases h) HKL.out HOL.out ⟨w1.heap.size, 0, none⟩ 1 1 [.bool can] rfl rfl HCN.out (by simp [Value.oneCell']) (by omega) HMAX.out HBYT.out ?_; intro v' w2 hown hg)
  have hzz := World.size_alloc w1 (.cells #[.bool can] 4)
  rw [hzz] at hown
  obtain ⟨g2, e2, rfl⟩ := own_form hown
  have hc := whole_apart K1.out hg (by simp)
  have hr := whole_apart K2.out hg (by simp)
  have ht := K3.out.grown hg (by have := K3.out.size; omega) (fun x hx => by cases hx)
  have hg2 := hg.size
  obtain ⟨c1, c2, c3⟩ := hc.cells3
  have hlc := hc.lt
  have HOWN := Lib.hid hown
  have HMAX2 := Lib.hid (show k + 1 + (n - (k + 1)) ≤ maxLen by unfold maxLen; omega)
  have HBYT2 := Lib.hid (show (k + 1 + (n - (k + 1))) * 1 ≤ 140737488355328 by omega)
  have HB2 := Lib.hid (show w1.heap.size + 1 ≤ w2.heap.size by omega)
  have HTL2 : Hid (∀ j u, (bits (bs.drop (k + 1)))[j]? = some u → w2.cell? ((⟨b, d0, none⟩ : Addr).add j) = some u) := fun j u hu => by
    rw [show (⟨b, d0, none⟩ : Addr).add j = ⟨b, d0 + j, none⟩ from by unfold Addr.add; split <;> simp_all]
    exact (ht.cell (p := ⟨b, d0 + j, none⟩) hbl).trans (HTL.out j u hu)
  have HDL := Lib.hid (show (bits (bs.drop (k + 1))).length = (n - (k + 1)) * 1 by have := HY.out; simp [bits]; omega)
  have HONE : Hid (∀ u ∈ bits (bs.drop (k + 1)), u.oneCell' = true) := bits_one _
  have HC := Lib.hid hc
  have HR := Lib.hid hr
  have HT := Lib.hid ht
  clear hown hg K1 K2 K3 HCN HMAX HBYT HOL hc hr ht hzz hg2
  go_upto_region 3 with (at_builtin; refine wpList_append_own _ rfl (.tmp 16) (.tmp 21) 38 rfl (w1.heap.size + 1) 4 i0 (.bool false) 1 1 Try.underlying38 HI.out HZ0.out HZ1.out HZ2.out rfl (by decide) (.slice (some ⟨g2, 0, none⟩) (k + 1) e2) (k + 1) (bits (bs.take k) ++ [.bool can]) rfl HOWN.out ⟨b, d0, none⟩ (n - (k + 1)) (d - (k + 1)) (bits (bs.drop (k + 1))) rfl HDL.out HTL2.out HONE.out HMAX2.out HBYT2.out HB2.out ?_; intro v' w3 hown hg _)
  rw [show k + 1 + (n - (k + 1)) = n by omega, show bits (bs.take k) ++ [.bool can] ++ bits (bs.drop (k + 1)) = bits (rowsSet bs k can) by simp [bits, rowsSet]] at hown
  have hown' := hown
  rw [show n = n - 1 + 1 by omega] at hown'
  obtain ⟨g3, e3, hv⟩ := own_form hown'
  rw [show n - 1 + 1 = n by omega] at hv
  subst hv
  clear hown'
  have hrr : ∀ x, (Value.slice (some ⟨g2, 0, none⟩) (k + 1) e2).ownBlock = some x → w1.heap.size + 1 ≤ x := fun x hx => (HOWN.out.lt x hx).1
  have hc := whole_grown HC.out hg hrr (by omega)
  have hr := whole_grown HR.out hg hrr (by omega)
  have ht := HT.out.grown hg (by have := HT.out.size; omega) (fun x hx => by have := hrr x hx; omega)
  have hg3 := hg.size
  clear hg hrr c1 c2 c3 HOWN HC HR HT HTL2 HDL HONE HMAX2 HBYT2
  go_wp2_with fail
  refine wp_region_held_drew (S := (Box3 w.heap.size (.slice A n c0) (.slice (some ⟨b, o, none⟩) n d) (.int .i64 s))) (by kernel_rfl) (box3_of hc.drew) (fun hHeld => ?_)
  replace hc := hc.drew
  replace hr := hr.drew
  replace ht := ht.drew
  replace hown : (World.drew w3).ownsRow (w1.heap.size + 1) 4 1 (.slice (some ⟨g3, 0, none⟩) n e3) n (bits (rowsSet bs k can)) := hown
  generalize World.drew w3 = wd at hc hr ht hown hHeld ⊢
  have HWD := Lib.hid ht.size
  refine wpAnyH_take (i := 0) (v := ?_) rfl (by kernel_rfl) (by kernel_rfl) (by kernel_rfl) (fun _ _ _ h => h) (Or.inl ⟨rfl, ?_⟩) hHeld ?_
  rotate_left
  · intro w' hS; obtain ⟨s0, s1, s2⟩ := hS; go_simp <;> with_reducible rfl
  simp only [Act.put, List.getElem_toArray, List.getElem_cons_succ, List.getElem_cons_zero, List.setIfInBounds_toArray, List.set_cons_succ, List.set_cons_zero]
  refine wpAnyH_take (i := 1) (v := ?_) rfl (by kernel_rfl) (by kernel_rfl) (by kernel_rfl) (fun _ _ _ h => h) (Or.inl ⟨rfl, ?_⟩) hHeld ?_
  rotate_left
  · intro w' hS; obtain ⟨s0, s1, s2⟩ := hS; go_simp <;> with_reducible rfl
  simp only [Act.put, List.getElem_toArray, List.getElem_cons_succ, List.getElem_cons_zero, List.setIfInBounds_toArray, List.set_cons_succ, List.set_cons_zero]
  refine wpAnyH_take (i := 3) (v := ?_) rfl (by kernel_rfl) (by kernel_rfl) (by kernel_rfl) (fun _ _ _ h => h) (Or.inl ⟨rfl, ?_⟩) hHeld ?_
  rotate_left
  · intro w' hS; obtain ⟨s0, s1, s2⟩ := hS; go_simp <;> with_reducible rfl
  simp only [Act.put, List.getElem_toArray, List.getElem_cons_succ, List.getElem_cons_zero, List.setIfInBounds_toArray, List.set_cons_succ, List.set_cons_zero]
  refine wpAnyH_take (i := 4) (v := ?_) rfl (by kernel_rfl) (by kernel_rfl) (by kernel_rfl) (fun _ _ _ h => h) (Or.inl ⟨rfl, ?_⟩) hHeld ?_
  rotate_left
  · intro w' hS; obtain ⟨s0, s1, s2⟩ := hS; go_simp <;> with_reducible rfl
  simp only [Act.put, List.getElem_toArray, List.getElem_cons_succ, List.getElem_cons_zero, List.setIfInBounds_toArray, List.set_cons_succ, List.set_cons_zero]
  refine wpAnyH_take (i := 5) (v := ?_) rfl (by kernel_rfl) (by kernel_rfl) (by kernel_rfl) (fun _ _ _ h => h) (Or.inl ⟨rfl, ?_⟩) hHeld ?_
  rotate_left
  · intro w' hS; obtain ⟨s0, s1, s2⟩ := hS; go_simp <;> with_reducible rfl
  simp only [Act.put, List.getElem_toArray, List.getElem_cons_succ, List.getElem_cons_zero, List.setIfInBounds_toArray, List.set_cons_succ, List.set_cons_zero]
  refine wpAnyH_ready (rs := [2]) (by kernel_rfl) (by simp) (AllReadyH.cons rfl (fun K hK => ?_) AllReadyH.nil)
  go_simp
  refine (cloneO_any A n c0 xs _ (by exact hA.below ht) HX.out (by omega) HNIL.out).mono ?_
  rintro e w4 ⟨E, e2, rfl, hE, hb⟩
  have HCAP := Lib.hid (own_caps hE)
  rw [HX.out] at hE ⊢
  replace hc := hc.below hb
  replace hr := hr.below hb
  replace hown := ownsRow_below hown hb
  have hz4 := hb.size
  replace ht := below_then ht hb ht.size
  clear hb
  refine hK.out _ _ (box3_of hc) (fun hHeld => ?_)
  clear hK K
  try simp only [Act.put, List.getElem_toArray, List.getElem_cons_succ, List.getElem_cons_zero, List.setIfInBounds_toArray, List.set_cons_succ, List.set_cons_zero]
  refine wpAnyH_take (i := 6) (v := ?_) rfl (by kernel_rfl) (by kernel_rfl) (by kernel_rfl) (fun _ _ _ h => h) (Or.inl ⟨rfl, ?_⟩) hHeld ?_
  rotate_left
  · intro w' hS; obtain ⟨s0, s1, s2⟩ := hS; go_simp <;> with_reducible rfl
  simp only [Act.put, List.getElem_toArray, List.getElem_cons_succ, List.getElem_cons_zero, List.setIfInBounds_toArray, List.set_cons_succ, List.set_cons_zero]
  refine wpAnyH_ready (rs := [7]) (by kernel_rfl) (by simp) (AllReadyH.cons rfl (fun K hK => ?_) AllReadyH.nil)
  refine wp_store_row 57 (.tmp 6) (.tmp 29) rfl (w.heap.size + 1) #[.slice E n e2, .slice (some ⟨g3, 0, none⟩) n e3, .int .i64 s] rfl rfl 57 #[.slice none 0 0, .slice none 0 0, .int .i64 0] hr size_crew rfl (by simp [Value.oneCell']) ?_
  have o9 := only_setRow w4 (w.heap.size + 1) #[.slice E n e2, .slice (some ⟨g3, 0, none⟩) n e3, .int .i64 s]
  have x9 := whole_setRow #[.slice E n e2, .slice (some ⟨g3, 0, none⟩) n e3, .int .i64 s] hr
  have e9 := own_only hE o9 hr (by decide)
  have f9 := own_only hown o9 hr (by decide)
  have c9 := o9.whole hc (by omega)
  have t9 := o9.below ht (by omega)
  generalize World.setRow w4 (w.heap.size + 1) #[.slice E n e2, .slice (some ⟨g3, 0, none⟩) n e3, .int .i64 s] = w9 at o9 x9 e9 f9 c9 t9 ⊢
  refine hK.out _ _ (box3_of c9) (fun hHeld => ?_)
  clear hK K
  try simp only [Act.put, List.getElem_toArray, List.getElem_cons_succ, List.getElem_cons_zero, List.setIfInBounds_toArray, List.set_cons_succ, List.set_cons_zero]
  refine wpAnyH_done (by kernel_rfl) ?_ _
  clear hHeld
  obtain ⟨r0, r1, r2⟩ := x9.cells3
  have hfe := (Fresh.of_own' e9)
  have hff := (Fresh.of_own' f9)
  have HFE := Lib.hid hfe
  have HFF := Lib.hid hff
  have hs9 := o9.size
  have hlen : (rowsSet bs k can).length = n := by rw [rowsSet_len (by have := HY.out; omega)]; exact HY.out
  have HLEN := Lib.hid hlen
  clear hfe hff
  go_wp2
  refine bodyPost_ret (v := .agg #[.slice E n e2, .slice (some ⟨g3, 0, none⟩) n e3, .int .i64 s]) (by simp [results, Try.results106, go_sem, r0, r1, r2]) rfl ⟨E, e2, _, e3, by rw [HX.out, HLEN.out], HFE.out.more HWD.out (Nat.le_refl _), HFF.out.more (by omega) (Nat.le_refl _), t9, HCAP.out.1, HCAP.out.2⟩

theorem Fresh.only_ne {w w' : World} {lo hi g : Nat} {ty t : TypeId} {A : Option Addr} {xs : List Value} {cs : Array Value} (hf : Fresh w lo hi ty A xs) (ho : Only g w w') (hb : Whole w g t cs) (hn : t ≠ ty) : Fresh w' lo hi ty A xs := by
  rcases hf with rfl | ⟨q, cs', hA, h1, h2, hw, h3, h4⟩
  · exact .inl rfl
  · exact .inr ⟨q, cs', hA, h1, h2, ho.whole hw (whole_ne hw hb (fun e => hn e.symm)), h3, h4⟩
/-- What teaching comes to. -/
def teachOk (xs : List Int) (bs : List Bool) (s : Int) (k : Int) : Bool := isCrew xs bs.length s && (decide (0 ≤ k) && decide (k < xs.length))
def teachNums (xs : List Int) (bs : List Bool) (s : Int) (k : Int) : List Int := if teachOk xs bs s k then xs else []
def teachRows (xs : List Int) (bs : List Bool) (s : Int) (k : Int) : List Bool := if teachOk xs bs s k then rowsSet bs k.toNat true else []
def teachMost (xs : List Int) (bs : List Bool) (s : Int) (k : Int) : Int := if teachOk xs bs s k then s else 0
theorem teach_no {xs : List Int} {bs : List Bool} {s k : Int} (h : teachOk xs bs s k = false) : teachOk xs bs s k = false ∧ teachNums xs bs s k = [] ∧ teachRows xs bs s k = [] ∧ teachMost xs bs s k = 0 := ⟨h, by simp [teachNums, h], by simp [teachRows, h], by simp [teachMost, h]⟩
theorem teach_yes {xs : List Int} {bs : List Bool} {s k : Int} (h : teachOk xs bs s k = true) : teachOk xs bs s k = true ∧ teachNums xs bs s k = xs ∧ teachRows xs bs s k = rowsSet bs k.toNat true ∧ teachMost xs bs s k = s := ⟨h, by simp [teachNums, h], by simp [teachRows, h], by simp [teachMost, h]⟩
theorem teach_le {xs : List Int} {bs : List Bool} {s k : Int} (hx : xs.length ≤ 1048576) (hy : bs.length ≤ 1048576) : (teachNums xs bs s k).length ≤ 1048576 ∧ (teachRows xs bs s k).length ≤ 1048576 := by
  cases h : teachOk xs bs s k
  · obtain ⟨-, h1, h2, -⟩ := teach_no h
    rw [h1, h2]; simp
  · obtain ⟨-, h1, h2, -⟩ := teach_yes h
    have hk : k.toNat < bs.length := by
      simp only [teachOk, Bool.and_eq_true, decide_eq_true_eq] at h
      have := (isCrew_ok h.1).rows
      omega
    rw [h1, h2, rowsSet_len hk]
    exact ⟨hx, hy⟩
/-- What TeachPerson hands back. -/
def CrewOkPost (xs : List Int) (bs : List Bool) (s : Int) (ok : Bool) (w : World) (e : Ending) (w' : World) : Prop :=
  ∃ (E : Option Addr) (c1 : Nat) (F : Option Addr) (c2 : Nat), e = .returned (.tuple #[.agg #[.slice E xs.length c1, .slice F bs.length c2, .int .i64 s], .bool ok]) ∧ Fresh w' w.heap.size w'.heap.size 3 E (nums xs) ∧ Fresh w' w.heap.size w'.heap.size 4 F (bits bs) ∧ Below w.heap.size w w'

end Go.Proofs.Ytlpeimlbpiofkaa
