/-
  What is proved: the given statement on FnExactCountReachedCrews: at every argument of its kinds the law returns true and the arguments read as before. Conditions: none beyond the statement's own.
  Beside it, what it stands on:
  What is proved: a contract of the model's CountReachedCrews. Conditions: the arguments are read as they lie.
  What is proved: the law FnExactCountReachedCrews returns true at every argument, and leaves all that was there as it was. Conditions: the arguments are read as they lie.
-/
import Derived.Deep.DeepCutAuto
import Derived.Deep.RegionHeld3
import Derived.JoinedOf
import Derived.Test.YtoedcieofjcgkaaJ3CountReachedCrews
set_option linter.unusedSimpArgs false
set_option linter.unusedVariables false
namespace Go.Proofs.Ytoedcieofjcgkaa
open Go.RowKit

/-- Behind the making of a state out of its number. -/
def StMade (bs : List Bool) (t : Bool) (w : World) (v : Value) (wx : World) : Prop :=
  ∃ (gb : Nat) (D : Option Addr) (z : Nat), v = .pointer (some ⟨gb, 0, none⟩) ∧ w.heap.size ≤ gb ∧ Whole wx gb 48 #[.slice D bs.length z, .bool t] ∧ Fresh wx w.heap.size wx.heap.size 4 D (bits bs) ∧ Below w.heap.size w wx

theorem win_holds {w : World} {base n c : Nat} {e : TypeId} {Q : Option Addr} {xs : List Value} (h : Win w base e 1 (.slice Q n c) n xs) : Holds w Q xs := by
  obtain ⟨g, o, cap, hv, -, hl, -, -, hc⟩ := h.cellAt
  obtain ⟨rfl, rfl⟩ : Q = some ⟨g, o, none⟩ ∧ c = cap := by simpa using hv
  exact .inr ⟨g, o, rfl, hl, hc⟩
theorem span_grown {w w' w'' : World} {b : Nat} {row : Option Nat} (h : Span b (b + 1) w w') (hg : w'.grownBy w'' row) (hr : ∀ k, row = some k → k = b ∨ w.heap.size ≤ k) : Span b (b + 1) w w'' :=
  ⟨hg.os.trans h.os, hg.tape.trans h.tape, hg.output.trans h.output, Nat.le_trans h.size hg.size, fun k hk hd => (hg.block k (Nat.lt_of_lt_of_le hk h.size) (fun e => by rcases hr k e.symm with h1 | h1 <;> omega)).trans (h.block k hk hd)⟩
theorem holds_cell {w : World} {b o k : Nat} {xs : List Value} {v : Value} (h : Holds w (some ⟨b, o, none⟩) xs) (hk : xs[k]? = some v) : w.cell? ⟨b, o + k, none⟩ = some v := by
  rcases h with rfl | ⟨b', o', h1, -, h2⟩
  · simp at hk
  · obtain ⟨rfl, rfl⟩ : b = b' ∧ o = o' := by simpa using h1
    exact h2 k v hk

set_option maxHeartbeats 6400000 in
set_option maxRecDepth 100000 in
set_option linter.unusedSimpArgs false in
set_option linter.unusedVariables false in
theorem specReachW_any (A : Option Addr) (n c : Nat) (B : Option Addr) (m d : Nat) (xs : List Int) (bs : List Bool) (s : Int) (w : World) (hA : Holds w A (nums xs)) (hB : Holds w B (bits bs)) (hx : xs.length = n) (hy : bs.length = m) (hn : n ≤ 9223372036854775807) :
    Calls Try.prog 54 #[.agg #[.slice A n c, .slice B m d, .int .i64 s]] w fun e w' => e = .returned (.tuple #[.int .i64 (reachW xs bs m s), .bool (isCrew xs m s)]) ∧ Below w.heap.size w w' := by
  have HX := Lib.hid hx
  have HY := Lib.hid hy
  have hc := Whole.fresh w 39 #[.slice A n c, .slice B m d, .int .i64 s]
  have ht := below1 w (.cells #[.slice A n c, .slice B m d, .int .i64 s] 39)
  obtain ⟨c0, c1, c2⟩ := hc.cells3
  have hlg := loGood_any A n c B m d xs s _ (hA.below ht) HX.out hn
  cases h1 : isCrew xs m s
  · have HV : Hid (reachW xs bs m s = 0) := by show _ = _; simp [reachW, h1]
    have H1 := Lib.hid h1
    clear h1
    go_enter Try.func54, Try.ntmps54
    go_wp2_with fail
    refine hlg.mono ?_
    clear hlg
    rintro e w1 ⟨rfl, hb⟩
    rw [H1.out]
    replace ht := below_then ht hb (by simp)
    clear hb hc c0 c1 c2
    go_wp2
    go_ret2
    exact ⟨by rw [HV.out]; rfl, ht⟩
  · have hok := isCrew_ok h1
    have hn7 : n ≤ 7 := by have := hok.seven; omega
    have hn8 : n ≤ 8 := by omega
    have HOK := Lib.hid hok
    have HV : Hid (reachW xs bs m s = (reachL xs bs s : Nat)) := by show _ = _; simp [reachW, h1]
    have H1 := Lib.hid h1
    have HLEN : Hid (∀ k, k ≤ turns 4 → (runW 4 (crewLists xs bs s) 0 k).2 = [] → reachL xs bs s = (runW 4 (crewLists xs bs s) 0 k).1.length) := fun k hk hq => reach_len (by omega) hk hq
    have HUP : Hid (∀ l ∈ crewLists xs bs s, l ∈ upLists n n) := fun l hl => by have := crew_up hl; rw [hx] at this; exact this
    have HSM := Lib.hid (crew_small (xs := xs) bs s (by omega))
    have hup8 := crew_up8 (xs := xs) (bs := bs) (s := s) (by omega)
    have HCNT : Hid (∀ k, Count 4 k (runW 4 (crewLists xs bs s) 0 k)) := fun k => count_run hup8 (first_mem 4) (fun n y hy => (mild_runW HSM.out hup8 (first_mem 4) n).dom y hy) k
    have HQI : Hid (∀ k, QIs n k (runW 4 (crewLists xs bs s) 0 k)) := fun k => QIs.run HUP.out k
    have HDOM : Hid (∀ k, ∀ y ∈ (runW 4 (crewLists xs bs s) 0 k).2, y ∈ sts 4) := fun k y hy => (mild_runW HSM.out hup8 (first_mem 4) k).dom y hy
    have HUP8 := Lib.hid hup8
    clear h1 hok hup8
    obtain ⟨i0, hi, hz0, hz1, hz2⟩ := info_parts info_int
    have HI := Lib.hid hi
    have HZ0 := Lib.hid hz0
    have HZ1 := Lib.hid hz1
    have HZ2 := Lib.hid hz2
    clear hi hz0 hz1 hz2
    go_enter Try.func54, Try.ntmps54
    go_wp2_with fail
    refine hlg.mono ?_
    clear hlg
    rintro e w1 ⟨rfl, hb⟩
    rw [H1.out]
    replace ht := below_then ht hb (by simp)
    replace hc := hc.below hb
    clear hb c0 c1 c2
    obtain ⟨c0, c1, c2⟩ := hc.cells3
    go_wp2_with fail
    refine (loStart_any A n c B m d s _ hn8).mono ?_
    rintro e w2 ⟨rfl, hb⟩
    replace ht := below_then ht hb ht.size
    replace hc := hc.below hb
    clear hb c0 c1 c2
    have HO0 : Hid (Win (w2.alloc (.cells #[.int .i64 0] 3)) (w.heap.size + 1) 3 1 (.slice (some ⟨w2.heap.size, 0, none⟩) 1 1) 1 (nums (qN n (runW 4 (crewLists xs bs s) 0 0).1))) := by
      have h : Win (w2.alloc (.cells #[.int .i64 0] 3)) (w.heap.size + 1) 3 1 (.slice (some ⟨w2.heap.size, 0, none⟩) 1 1) 1 [.int .i64 0] := Win.made w2 (w.heap.size + 1) 3 #[.int .i64 0] hc.lt
      have h2 : nums (qN n (runW 4 (crewLists xs bs s) 0 0).1) = [.int .i64 0] := by simp [runW, qN, qOf, nums, phi]; rw [show (bitAt 0 0).toNat = 0 from rfl, num_zero]
      show Win _ _ _ _ _ _ _
      rw [h2]
      exact h
    have HC0 := Lib.hid (hc.alloc (.cells #[.int .i64 0] 3))
    have HT0 := Lib.hid (ht.alloc ht.size (.cells #[.int .i64 0] 3))
    clear hc ht
    go_wp2
    go_loopw [4, 5] (fun v i wr => ∃ (k : Nat) (Q : Option Addr) (cq : Nat), k ≤ turns 4 ∧ i = .int .i64 k ∧ v = .slice Q (runW 4 (crewLists xs bs s) 0 k).1.length cq ∧ Win wr (w.heap.size + 1) 3 1 (.slice Q (runW 4 (crewLists xs bs s) 0 k).1.length cq) (runW 4 (crewLists xs bs s) 0 k).1.length (nums (qN n (runW 4 (crewLists xs bs s) 0 k).1)) ∧ Whole wr w.heap.size 39 #[.slice A n c, .slice B m d, .int .i64 s] ∧ Below w.heap.size w wr) (fun _ i _ => turns 4 - (intOf i).toNat)
    case atStart => exact ⟨0, _, 1, Nat.zero_le _, rfl, rfl, HO0.out, HC0.out, HT0.out⟩
    case round =>
      clear HO0 HC0 HT0
      obtain ⟨k, Q, cq, hk, rfl, rfl, hown, hcw, ht⟩ := hrel
      have hct := HCNT.out k
      have hqi := HQI.out k
      have hln : (runW 4 (crewLists xs bs s) 0 k).1.length ≤ 512 := by
        have h := sub_len hct.nodup (b := sts 4) (fun y hy => by obtain ⟨p, hp, rfl⟩ := List.mem_map.1 hy; exact hct.dom p hp)
        rw [List.length_map] at h
        exact h
      have hql : (qOf (runW 4 (crewLists xs bs s) 0 k).1).length = (runW 4 (crewLists xs bs s) 0 k).1.length := by simp [qOf]
      cases hq2 : (runW 4 (crewLists xs bs s) 0 k).2 with
      | nil =>
        have hdr := hqi.drop
        rw [hq2] at hdr
        have hle := List.drop_eq_nil_iff.1 hdr.symm
        rw [hql] at hle
        have HR := Lib.hid (HLEN.out k hk hq2)
        have HB := Lib.hid ht
        clear hown hcw ht hct hqi hdr hq2 hql
        generalize (runW 4 (crewLists xs bs s) 0 k).1.length = ln at hln hle HR ⊢
        have hd : decide ((k : Int) < (ln : Int)) = false := by simp; omega
        go_wp2
        go_ret2
        exact ⟨by rw [HV.out, HR.out]; rfl, HB.out⟩
      | cons x r =>
        have hdr := hqi.drop
        rw [hq2] at hdr
        have hkl : k < (qOf (runW 4 (crewLists xs bs s) 0 k).1).length := by
          rcases Nat.lt_or_ge k (qOf (runW 4 (crewLists xs bs s) 0 k).1).length with h | h
          · exact h
          · rw [List.drop_eq_nil_of_le h] at hdr; cases hdr
        have hxk : (qOf (runW 4 (crewLists xs bs s) 0 k).1)[k] = x := by
          rw [List.drop_eq_getElem_cons hkl] at hdr
          exact (List.cons.inj hdr).1.symm
        have hxs : x / 2 < 2 ^ n := hqi.small x (by rw [← hxk]; exact List.getElem_mem hkl)
        have hx4 : x ∈ sts 4 := HDOM.out k x (by rw [hq2]; exact List.mem_cons_self ..)
        have hsum : (runW 4 (crewLists xs bs s) 0 k).1.length = k + (runW 4 (crewLists xs bs s) 0 k).2.length := by
          rcases hct.sum with h | h
          · rw [hq2] at h; cases h
          · exact h
        have HNXT : Hid ((runW 4 (crewLists xs bs s) 0 (k + 1)).1 = (expJ x (mvsW 4 (crewLists xs bs s) x) (runW 4 (crewLists xs bs s) 0 k) (mvsW 4 (crewLists xs bs s) x).length).1) := by
          show _ = _
          rw [runW_next, nextW_at hq2, expW_all]
        have HEXP : Hid (∀ j, QIs n k (expJ x (mvsW 4 (crewLists xs bs s) x) (runW 4 (crewLists xs bs s) 0 k) j)) := fun j =>
          (QIs.exp (x := x) ((mvsW 4 (crewLists xs bs s) x).take j) hqi (by omega) (fun l hl => (phi_step hxs (mvsW_up HUP.out (List.mem_of_mem_take hl))).2)).1
        have HELN : Hid (∀ j, (expJ x (mvsW 4 (crewLists xs bs s) x) (runW 4 (crewLists xs bs s) 0 k) j).1.length ≤ 512) := fun j => by
          obtain ⟨g1, g2, -⟩ := count_fold (c := k) ((mvsW 4 (crewLists xs bs s) x).take j) (runW 4 (crewLists xs bs s) 0 k) (fun l hl => (plcW_step HUP8.out hx4 (List.mem_of_mem_take hl)).2) hct.nodup hct.dom hsum
          have h := sub_len g1 (b := sts 4) (fun y hy => by obtain ⟨p, hp, rfl⟩ := List.mem_map.1 hy; exact g2 p hp)
          rw [List.length_map] at h
          exact h
        have HSTP : Hid (∀ l ∈ mvsW 4 (crewLists xs bs s) x, l ∈ upLists n n ∧ num (flipped (bitsOf (x / 2) n) l) (!bitAt x 0).toNat = phi n (stepC x l) ∧ stepC x l / 2 < 2 ^ n) := fun l hl => ⟨mvsW_up HUP.out hl, phi_step hxs (mvsW_up HUP.out hl)⟩
        have HPAD : Hid (ridesAt (bitsOf (x / 2) n) (bitAt x 0) (crewLists xs bs s) = mvsW 4 (crewLists xs bs s) x) := rides_pad hn8 HUP.out
        have HMVL : Hid ((mvsW 4 (crewLists xs bs s) x).length ≤ 255) := mvsW_len HSM.out
        have HE0 : Hid (expJ x (mvsW 4 (crewLists xs bs s) x) (runW 4 (crewLists xs bs s) 0 k) 0 = runW 4 (crewLists xs bs s) 0 k) := by show _ = _; rw [expJ, List.take_zero]; rfl
        have hkT : k + 1 ≤ turns 4 := by rw [hql] at hkl; show k + 1 ≤ 2 * 2 ^ (2 * 4); omega
        have hkr : k < (runW 4 (crewLists xs bs s) 0 k).1.length := by rw [hql] at hkl; exact hkl
        have hd : decide ((k : Int) < ((runW 4 (crewLists xs bs s) 0 k).1.length : Int)) = true := by simp; omega
        obtain ⟨ph, hphd⟩ : ∃ ph, ph = phi n x := ⟨_, rfl⟩
        have hph : ph < 1048576 := by rw [hphd]; exact Nat.lt_of_lt_of_le (phi_lt n x) (Nat.le_trans (Nat.pow_le_pow_right (by omega) (show n + 1 ≤ 9 by omega)) (by decide))
        have HDG : Hid (digits n ph = bitsOf (x / 2) n) := by show _ = _; rw [hphd]; exact phi_digits n x
        have HTP : Hid (topBit n ph = bitAt x 0) := by show _ = _; rw [hphd]; exact phi_top n x
        have HSL := Lib.hid (bitsOf_len (x / 2) n)
        obtain ⟨bq, oq, hQ, hbq, hq⟩ := (win_holds hown).look (k := k) (by simp [nums, qN]; exact hkl)
        subst hQ
        have hqv : (nums (qN n (runW 4 (crewLists xs bs s) 0 k).1))[k]'(by simp [nums, qN]; exact hkl) = .int .i64 (ph : Nat) := by simp [nums, qN, hxk, hphd]
        rw [hqv] at hq
        have HQV : Hid ((nums (qN n (runW 4 (crewLists xs bs s) 0 k).1))[k]? = some (.int .i64 (ph : Nat))) := by show _ = _; rw [← hqv]; exact List.getElem?_eq_getElem _
        have hqh := win_holds hown
        have HBQ : Hid (w.heap.size + 1 ≤ bq ∧ bq < wr.heap.size) := hown.lt bq rfl
        clear hct hqi hdr hkl hxk hxs hx4 hsum hphd hqv hql
        generalize hM : mvsW 4 (crewLists xs bs s) x = M at HNXT HEXP HELN HSTP HPAD HMVL HE0
        generalize bitsOf (x / 2) n = sb at HDG HSTP HPAD HSL
        generalize bitAt x 0 = tb at HTP HSTP HPAD
        clear hM
        obtain ⟨st, hst⟩ : ∃ st, st = runW 4 (crewLists xs bs s) 0 k := ⟨_, rfl⟩
        rw [← hst] at hown hln hd hq2 HEXP HELN HE0 HNXT hkr HQV hqh ⊢
        clear hst
        obtain ⟨wo, rfl⟩ : ∃ W : World, W = wr := ⟨_, rfl⟩
        have HOWN := Lib.hid hown
        have HCW := Lib.hid hcw
        have HT := Lib.hid ht
        have HQH := Lib.hid hqh
        clear hown hq2 ht
        go_upto_region 7 with fail
        go_cut [6] (fun v wx => StMade sb tb wo v wx)
        case first =>
          refine wp_region_held_drew (S := (fun w' => w'.cell? ⟨w.heap.size, 0, none⟩ = some (.slice A n c) ∧ w'.cell? ⟨bq, oq + k, none⟩ = some (.int .i64 (ph : Nat)))) (by kernel_rfl) ⟨hcw.drew.cell 0, holds_cell hqh.drew HQV.out⟩ (fun hHeld => ?_)
          have hbo : Below wo.heap.size wo wo.drew := (Below.refl _ _).drew
          replace hcw := hcw.drew
          replace hqh := hqh.drew
          generalize World.drew wo = w0 at hcw hqh hbo hHeld ⊢
          refine wpAnyH_take (i := 0) (v := ?_) rfl (by kernel_rfl) (by kernel_rfl) (by kernel_rfl) (fun _ _ _ h => h) (Or.inl ⟨rfl, ?_⟩) hHeld ?_
          rotate_left
          · intro w' hS; obtain ⟨s0, s1⟩ := hS; go_simp <;> with_reducible rfl
          simp only [Act.put, List.getElem_toArray, List.getElem_cons_succ, List.getElem_cons_zero, List.setIfInBounds_toArray, List.set_cons_succ, List.set_cons_zero]
          refine wpAnyH_take (i := 1) (v := ?_) rfl (by kernel_rfl) (by kernel_rfl) (by kernel_rfl) (fun _ _ _ h => h) (Or.inl ⟨rfl, ?_⟩) hHeld ?_
          rotate_left
          · intro w' hS; obtain ⟨s0, s1⟩ := hS; go_simp <;> with_reducible rfl
          simp only [Act.put, List.getElem_toArray, List.getElem_cons_succ, List.getElem_cons_zero, List.setIfInBounds_toArray, List.set_cons_succ, List.set_cons_zero]
          refine wpAnyH_take (i := 2) (v := ?_) rfl (by kernel_rfl) (by kernel_rfl) (by kernel_rfl) (fun _ _ _ h => h) (Or.inl ⟨rfl, ?_⟩) hHeld ?_
          rotate_left
          · intro w' hS; obtain ⟨s0, s1⟩ := hS; go_simp <;> with_reducible rfl
          simp only [Act.put, List.getElem_toArray, List.getElem_cons_succ, List.getElem_cons_zero, List.setIfInBounds_toArray, List.set_cons_succ, List.set_cons_zero]
          refine wpAnyH_take (i := 3) (v := ?_) rfl (by kernel_rfl) (by kernel_rfl) (by kernel_rfl) (fun _ _ _ h => h) (Or.inl ⟨rfl, ?_⟩) hHeld ?_
          rotate_left
          · intro w' hS; obtain ⟨s0, s1⟩ := hS; go_simp <;> with_reducible rfl
          simp only [Act.put, List.getElem_toArray, List.getElem_cons_succ, List.getElem_cons_zero, List.setIfInBounds_toArray, List.set_cons_succ, List.set_cons_zero]
          refine wpAnyH_take (i := 4) (v := ?_) rfl (by kernel_rfl) (by kernel_rfl) (by kernel_rfl) (fun _ _ _ h => h) (Or.inl ⟨rfl, ?_⟩) hHeld ?_
          rotate_left
          · intro w' hS; obtain ⟨s0, s1⟩ := hS; go_simp <;> with_reducible rfl
          simp only [Act.put, List.getElem_toArray, List.getElem_cons_succ, List.getElem_cons_zero, List.setIfInBounds_toArray, List.set_cons_succ, List.set_cons_zero]
          refine wpAnyH_take (i := 5) (v := ?_) rfl (by kernel_rfl) (by kernel_rfl) (by kernel_rfl) (fun _ _ _ h => h) (Or.inl ⟨rfl, ?_⟩) hHeld ?_
          rotate_left
          · intro w' hS; obtain ⟨s0, s1⟩ := hS; go_simp <;> with_reducible rfl
          simp only [Act.put, List.getElem_toArray, List.getElem_cons_succ, List.getElem_cons_zero, List.setIfInBounds_toArray, List.set_cons_succ, List.set_cons_zero]
          refine wpAnyH_take (i := 6) (v := ?_) rfl (by kernel_rfl) (by kernel_rfl) (by kernel_rfl) (fun _ _ _ h => h) (Or.inl ⟨rfl, ?_⟩) hHeld ?_
          rotate_left
          · intro w' hS; obtain ⟨s0, s1⟩ := hS; go_simp <;> with_reducible rfl
          simp only [Act.put, List.getElem_toArray, List.getElem_cons_succ, List.getElem_cons_zero, List.setIfInBounds_toArray, List.set_cons_succ, List.set_cons_zero]
          refine wpAnyH_ready (rs := [7, 8]) (by kernel_rfl) (by simp) (AllReadyH.cons rfl (fun K hK => ?_) (AllReadyH.cons rfl (fun K hK => ?_) AllReadyH.nil))
          · go_simp
            have hse := seState_own n ph w0 hn8 hph
            rw [HDG.out, HTP.out] at hse
            refine hse.mono ?_
            clear hse
            rintro e wzc ⟨D, z, rfl, hD, hb⟩
            have HDL := Lib.hid hbo.size
            replace hcw := hcw.below hb
            replace hqh := hqh.below hb
            replace hbo := below_then hbo hb hbo.size
            clear hb
            refine hK.out _ _ ⟨hcw.cell 0, holds_cell hqh HQV.out⟩ (fun hHeld => ?_)
            clear hK K
            try simp only [Act.put, List.getElem_toArray, List.getElem_cons_succ, List.getElem_cons_zero, List.setIfInBounds_toArray, List.set_cons_succ, List.set_cons_zero]
            refine wpAnyH_ready (rs := [8]) (by kernel_rfl) (by simp) (AllReadyH.cons rfl (fun K hK => ?_) AllReadyH.nil)
            go_simp
            have hal := Whole.fresh wzc 48 #[.slice none 0 0, .bool false]
            have HGB := Lib.hid hbo.size
            replace hcw := hcw.alloc (.cells #[.slice none 0 0, .bool false] 48)
            replace hqh := hqh.alloc (.cells #[.slice none 0 0, .bool false] 48)
            replace hD := hD.alloc (.cells #[.slice none 0 0, .bool false] 48)
            replace hbo := hbo.alloc hbo.size (.cells #[.slice none 0 0, .bool false] 48)
            have HSZ : Hid ((World.alloc wzc (.cells #[.slice none 0 0, .bool false] 48)).heap.size = wzc.heap.size + 1) := World.size_alloc _ _
            generalize World.alloc wzc (.cells #[.slice none 0 0, .bool false] 48) = wzca at hcw hqh hbo hal HSZ hD ⊢
            refine hK.out _ _ ⟨hcw.cell 0, holds_cell hqh HQV.out⟩ (fun hHeld => ?_)
            clear hK K
            try simp only [Act.put, List.getElem_toArray, List.getElem_cons_succ, List.getElem_cons_zero, List.setIfInBounds_toArray, List.set_cons_succ, List.set_cons_zero]
            refine wpAnyH_ready (rs := [9]) (by kernel_rfl) (by simp) (AllReadyH.cons rfl (fun K hK => ?_) AllReadyH.nil)
            obtain ⟨e0, e1, f0, f1⟩ := hal.two
            have hgl := hal.lt
            go_simp
            clear e0 e1 f0 f1
            replace hbo := below_set (b := wzc.heap.size) (o := 1) (u := .bool tb) (below_set (b := wzc.heap.size) (o := 0) (u := .slice D n z) hbo HGB.out) HGB.out
            replace hal := (hal.set_ 0 (.slice D n z)).set_ 1 (.bool tb)
            replace hD := (hD.set_out (b := wzc.heap.size) (o := 0) (u := .slice D n z) (by have := HSZ.out; omega)).set_out (b := wzc.heap.size) (o := 1) (u := .bool tb) (by have := HSZ.out; omega)
            refine hK.out _ _ ⟨(HCW.out.below hbo).cell 0, holds_cell (HQH.out.below hbo) HQV.out⟩ (fun hHeld => ?_)
            clear hK K
            try simp only [Act.put, List.getElem_toArray, List.getElem_cons_succ, List.getElem_cons_zero, List.setIfInBounds_toArray, List.set_cons_succ, List.set_cons_zero]
            refine wpAnyH_done (by kernel_rfl) ?_ _
            clear hHeld
            go_wp2_with fail
            go_meet
            exact ⟨wzc.heap.size, D, z, rfl, HGB.out, by rw [HSL.out]; exact hal, hD.more HDL.out (by simp [World.setCell] <;> first | omega | (have := HSZ.out; omega)), hbo⟩
          · go_simp
            have hal := Whole.fresh w0 48 #[.slice none 0 0, .bool false]
            have HGB := Lib.hid hbo.size
            replace hcw := hcw.alloc (.cells #[.slice none 0 0, .bool false] 48)
            replace hqh := hqh.alloc (.cells #[.slice none 0 0, .bool false] 48)
            replace hbo := hbo.alloc hbo.size (.cells #[.slice none 0 0, .bool false] 48)
            have HSZ : Hid ((World.alloc w0 (.cells #[.slice none 0 0, .bool false] 48)).heap.size = w0.heap.size + 1) := World.size_alloc _ _
            generalize World.alloc w0 (.cells #[.slice none 0 0, .bool false] 48) = wza at hcw hqh hbo hal HSZ ⊢
            refine hK.out _ _ ⟨hcw.cell 0, holds_cell hqh HQV.out⟩ (fun hHeld => ?_)
            clear hK K
            try simp only [Act.put, List.getElem_toArray, List.getElem_cons_succ, List.getElem_cons_zero, List.setIfInBounds_toArray, List.set_cons_succ, List.set_cons_zero]
            refine wpAnyH_ready (rs := [7]) (by kernel_rfl) (by simp) (AllReadyH.cons rfl (fun K hK => ?_) AllReadyH.nil)
            go_simp
            have hse := seState_own n ph wza hn8 hph
            rw [HDG.out, HTP.out] at hse
            refine hse.mono ?_
            clear hse
            rintro e wzac ⟨D, z, rfl, hD, hb⟩
            have HDL := Lib.hid hbo.size
            replace hal := hal.below hb
            replace hcw := hcw.below hb
            replace hqh := hqh.below hb
            replace hbo := below_then hbo hb hbo.size
            clear hb
            refine hK.out _ _ ⟨hcw.cell 0, holds_cell hqh HQV.out⟩ (fun hHeld => ?_)
            clear hK K
            try simp only [Act.put, List.getElem_toArray, List.getElem_cons_succ, List.getElem_cons_zero, List.setIfInBounds_toArray, List.set_cons_succ, List.set_cons_zero]
            refine wpAnyH_ready (rs := [9]) (by kernel_rfl) (by simp) (AllReadyH.cons rfl (fun K hK => ?_) AllReadyH.nil)
            obtain ⟨e0, e1, f0, f1⟩ := hal.two
            have hgl := hal.lt
            go_simp
            clear e0 e1 f0 f1
            replace hbo := below_set (b := w0.heap.size) (o := 1) (u := .bool tb) (below_set (b := w0.heap.size) (o := 0) (u := .slice D n z) hbo HGB.out) HGB.out
            replace hal := (hal.set_ 0 (.slice D n z)).set_ 1 (.bool tb)
            replace hD := (hD.set_out (b := w0.heap.size) (o := 0) (u := .slice D n z) (by have := HSZ.out; omega)).set_out (b := w0.heap.size) (o := 1) (u := .bool tb) (by have := HSZ.out; omega)
            refine hK.out _ _ ⟨(HCW.out.below hbo).cell 0, holds_cell (HQH.out.below hbo) HQV.out⟩ (fun hHeld => ?_)
            clear hK K
            try simp only [Act.put, List.getElem_toArray, List.getElem_cons_succ, List.getElem_cons_zero, List.setIfInBounds_toArray, List.set_cons_succ, List.set_cons_zero]
            refine wpAnyH_done (by kernel_rfl) ?_ _
            clear hHeld
            go_wp2_with fail
            go_meet
            exact ⟨w0.heap.size, D, z, rfl, HGB.out, by rw [HSL.out]; exact hal, hD.more HDL.out (by simp [World.setCell] <;> first | omega | (have := HSZ.out; omega)), hbo⟩
        case rest =>
          obtain ⟨gb, D, z, rfl, hgb, hsb, hDf, hbw⟩ := hcut
          have htc := below_then HT.out hbw HT.out.size
          have hcc := HCW.out.below hbw
          have hownc := HOWN.out.below hbw
          rw [HSL.out] at hsb
          obtain ⟨c0, c1, c2⟩ := hcc.cells3
          obtain ⟨e0, e1, -, -⟩ := hsb.two
          have hlc := hcc.lt
          have hlb := hsb.lt
          clear hqh
          go_wp2_with fail
          refine (loRides_any A n c B m d xs bs s D n z sb tb _ (by exact hA.below htc) (by exact hB.below htc) (by exact hDf.holds) HX.out HY.out HSL.out HOK.out (by rw [HSL.out, HX.out])).mono ?_
          rintro e w5 ⟨A1, c5, rs, rfl, hrn, hh, hb⟩
          rw [HPAD.out] at hrn
          have hrl : rs.length = M.length := by rw [← hrn, rowNums_len]
          have hml := HMVL.out
          have HRN := Lib.hid hrn
          have HT5 := Lib.hid (below_then htc hb htc.size)
          have HC5 := Lib.hid (hcc.below hb)
          have HO5 := Lib.hid (hownc.below hb)
          have HS5 := Lib.hid (hsb.below hb)
          have HD5 := Lib.hid (hDf.below hb)
          have HG5 := Lib.hid hh.free
          have hz5 := hb.size
          have hz6 := hbw.size
          have HBQ2 := Lib.hid (show w.heap.size < bq ∧ bq < wo.heap.size ∧ bq < wc.heap.size from by have := HBQ.out; omega)
          clear hrn hh hb hbw htc hcc hownc hsb hDf c0 c1 c2 e0 e1
          go_wp2
          go_loopw [4, 34] (fun v i wz => ∃ (j : Nat) (Q2 : Option Addr) (cq2 : Nat), j ≤ rs.length ∧ i = .int .i64 j ∧ v = .slice Q2 (expJ x M st j).1.length cq2 ∧ Win wz (w.heap.size + 1) 3 1 (.slice Q2 (expJ x M st j).1.length cq2) (expJ x M st j).1.length (nums (qN n (expJ x M st j).1)) ∧ (∀ kk, (Value.slice Q2 (expJ x M st j).1.length cq2).ownBlock = some kk → kk = bq ∨ w5.heap.size ≤ kk) ∧ Span bq (bq + 1) w5 wz) (fun _ i _ => rs.length - (intOf i).toNat)
          case atStart => exact ⟨0, _, cq, Nat.zero_le _, rfl, by rw [HE0.out], by rw [HE0.out]; exact HO5.out, fun kk h => .inl (by simp only [Value.ownBlock, Option.some.injEq] at h; exact h.symm), Span.refl _ _ _⟩
          case round =>
            clear HO5
            obtain ⟨j, Q2, cq2, hj, rfl, rfl, hown, hob, hsp⟩ := hrel
            obtain ⟨wz, rfl⟩ : ∃ W : World, W = wr := ⟨_, rfl⟩
            have hb2 := HBQ2.out
            have hln2 := HELN.out j
            by_cases hlt : j < rs.length
            · have hd1 : decide ((j : Int) < (rs.length : Int)) = true := by simp; omega
              have hjm : j < M.length := by omega
              have hlj : M[j] = rs[j].xs := by have h := rowNums_get hlt; simp only [HRN.out] at h; exact h
              have hmem : rs[j].xs ∈ M := by rw [← hlj]; exact List.getElem_mem hjm
              obtain ⟨hup1, hnum, hsmall⟩ := HSTP.out _ hmem
              have hnx := expJ_next (x := x) (st := st) hjm
              rw [hlj] at hnx
              have hqi := HEXP.out j
              have hgz := hsp.freeGrid HG5.out (.inr (by omega))
              obtain ⟨b6, o6, rfl, hbl6, hcell6, hrow6, hrl6, hrn6⟩ := hgz.grid.look hlt
              have hsz := hsp.whole HS5.out (.inr (by omega))
              have hdz := hsp.fresh HD5.out (.inr (by omega))
              obtain ⟨e0, e1, -, -⟩ := hsz.two
              have hlz := hsz.lt
              have hst1 := (up_steps hup1).1
              have hn1 : 0 < n := by
                rcases Nat.eq_zero_or_pos n with h | h
                · subst h
                  have h2 := (up_steps hup1).2
                  have h3 := mem_steps hst1 (List.getElem_mem (l := rs[j].xs) (n := 0) (by omega))
                  omega
                · exact h
              obtain ⟨gD, oD, rfl, hbD, hcD⟩ := hdz.holds.spot (by simp [bits]; have := HSL.out; omega)
              obtain ⟨l, hle⟩ : ∃ l, rs[j].xs = l := ⟨_, rfl⟩
              obtain ⟨rA, hrA⟩ : ∃ a, rs[j].A = a := ⟨_, rfl⟩
              obtain ⟨rn, hrn⟩ : ∃ a, rs[j].n = a := ⟨_, rfl⟩
              obtain ⟨rc, hrc⟩ : ∃ a, rs[j].c = a := ⟨_, rfl⟩
              rw [hrA, hrn, hrc] at hcell6
              rw [hrA, hle] at hrow6
              rw [hle, hrn] at hrl6
              rw [hrn] at hrn6
              rw [hle] at hup1 hnum hsmall hnx hst1
              obtain ⟨y, hy⟩ : ∃ y, stepC x l = y := ⟨_, rfl⟩
              have HY2 := Lib.hid hy
              have HNUM := Lib.hid hnum
              have HSMALL := Lib.hid hsmall
              have HNX := Lib.hid hnx
              have HQI := Lib.hid hqi
              have HCD := Lib.hid hcD
              have HST1 := Lib.hid hst1
              have HRW := Lib.hid hrow6
              have HRL := Lib.hid hrl6
              have HOZ := Lib.hid hown
              have HOB := Lib.hid hob
              have HSP := Lib.hid hsp
              clear hle hrA hrn hrc hup1 hnum hsmall hnx hst1 hqi hgz hsz hdz hcD hrow6 hown hob hsp hy hmem hlj
              generalize expJ x M st j = ej at HNX HQI HOZ HOB hln2 ⊢
              obtain ⟨mj, qj⟩ := ej
              simp only at hln2 HOZ HOB
              go_wp2_with fail
              have hpc := paCross_any gD oD n z rA rn rc sb l tb wz HCD.out HSL.out hn1 (by omega) HRW.out HRL.out (by omega) (HST1.out)
              refine hpc.mono ?_
              clear hpc e0 e1
              rintro e w6 ⟨A6, c6, rfl, hf6, hb6⟩
              have hfl : (flipped sb l).length = n := by rw [flipped_len, HSL.out]
              rw [hfl]
              go_wp2_with fail
              refine (seIndex_any A6 n c6 (flipped sb l) (!tb) _ hf6.holds hfl hn8).mono ?_
              rintro e w7 ⟨rfl, hb7⟩
              rw [HNUM.out, HY2.out]
              have hb67 := below_then hb6 hb7 hb6.size
              have HO7 := Lib.hid (HOZ.out.below hb67)
              have HSP7 := Lib.hid (HSP.out.trans (Span.of_below hb67 _ _))
              have hw7 := hb67.size
              clear hf6 hb6 hb7 hb67
              go_wp2_with fail
              refine (l1Has_any Q2 mj.length cq2 (qN n mj) _ w7 (win_holds HO7.out) (qN_len n mj) (by omega)).mono ?_
              rintro e w8 ⟨rfl, rfl⟩
              have hwt := HT5.out.size
              have hs5 := HSP7.out.size
              cases hqy : lk mj y with
              | some v =>
                have HNN : Hid (stepP x (mj, qj) l = (mj, qj)) := stepP_some (by rw [HY2.out]; exact hqy)
                rw [has_known (p := n) hqy]
                clear hqy
                go_wp2
                go_roundw
                case rel => exact ⟨j + 1, Q2, cq2, by omega, by go_num, by rw [HNX.out, HNN.out], by rw [HNX.out, HNN.out]; exact HO7.out, by rw [HNX.out, HNN.out]; exact HOB.out, HSP7.out⟩
                case measure => simp [intOf]; omega
              | none =>
                have HNN : Hid ((stepP x (mj, qj) l).1 = (y, (lk mj x).getD 0 + 1) :: mj) := by show _ = _; rw [stepP_none (by rw [HY2.out]; exact hqy), HY2.out]
                rw [has_fresh (p := n) HQI.out.small (by have := HSMALL.out; rw [HY2.out] at this; exact this) hqy]
                clear hqy
                have K := Lib.hid (HO7.out.alloc (.cells #[.int .i64 ((phi n y : Nat) : Int)] 3))
                have HSP8 := Lib.hid (HSP7.out.trans (Span.of_below (below1 w7 (.cells #[.int .i64 ((phi n y : Nat) : Int)] 3)) _ _))
                have HNEW := Lib.hid (cell_one_new w7 (.int .i64 ((phi n y : Nat) : Int)) 3)
                have HONE := Lib.hid (show ∀ u ∈ [(Value.int .i64 ((phi n y : Nat) : Int))], u.oneCell' = true by simp [Value.oneCell'])
                have HMAX := Lib.hid (show mj.length + 1 ≤ maxLen by unfold maxLen; omega)
                have HBYT := Lib.hid (show (mj.length + 1) * 8 ≤ 140737488355328 by omega)
                have HBASE := Lib.hid (show w.heap.size + 1 ≤ (w7.alloc (.cells #[.int .i64 ((phi n y : Nat) : Int)] 3)).heap.size by simp; omega)
                have HNL : Hid ((expJ x M st (j + 1)).1.length = mj.length + 1 ∧ nums (qN n (expJ x M st (j + 1)).1) = nums (qN n mj) ++ [.int .i64 ((phi n y : Nat) : Int)]) := by
                  show _ ∧ _
                  rw [HNX.out, HNN.out, qN_new]
                  simp [nums]
                go_wp2_with (at_builtin; refine wpList_append_win _ rfl (.tmp 46) (.tmp 48) 33 rfl (w.heap.size + 1) 3 i0 (.int .i64 0) 1 8 Try.underlying33 HI.out HZ0.out HZ1.out HZ2.out rfl (.slice Q2 mj.length cq2) mj.length (nums (qN n mj)) rfl K.out ⟨w7.heap.size, 0, none⟩ 1 1 [.int .i64 ((phi n y : Nat) : Int)] rfl rfl HNEW.out HONE.out HMAX.out HBYT.out HBASE.out ?_; intro v' w9 hW9 hg9 hv9; obtain ⟨g9, o9, cap9, hvv, -, -, -, -, -⟩ := hW9.cellAt; subst hvv)
                have HW9 := Lib.hid hW9
                have HSP9 := Lib.hid (span_grown HSP8.out hg9 (fun kk e => HOB.out kk e))
                have HOB9 : Hid (∀ kk, (Value.slice (some ⟨g9, o9, none⟩) (mj.length + 1) cap9).ownBlock = some kk → kk = bq ∨ w5.heap.size ≤ kk) := fun kk e => by
                  rcases hv9 with h | h
                  · exact HOB.out kk (h.symm.trans e)
                  · right
                    rw [h] at e
                    have e' := Option.some.inj e
                    simp only [World.size_alloc] at e'
                    omega
                clear hW9 hg9 hv9
                go_roundw
                case rel => exact ⟨j + 1, some ⟨g9, o9, none⟩, cap9, by omega, by go_num, by rw [HNL.out.1], by rw [HNL.out.1, HNL.out.2]; exact HW9.out, by rw [HNL.out.1]; exact HOB9.out, HSP9.out⟩
                case measure => simp [intOf]; omega
            · have hje : j = M.length := by omega
              have hd1 : decide ((j : Int) < (rs.length : Int)) = false := by simp; omega
              have hd2 : decide ((rs.length : Int) < (rs.length : Int)) = false := by simp
              have HW := Lib.hid hown
              have HCE := Lib.hid (hsp.whole HC5.out (.inl (by omega)))
              have HBE := Lib.hid (hsp.below HT5.out (by omega) HT5.out.size)
              have HJ := Lib.hid hje
              clear hown hob hsp
              go_wp2
              go_roundw
              case rel => exact ⟨k + 1, Q2, cq2, hkT, by go_num, by rw [HNXT.out, ← HJ.out], by rw [HNXT.out, ← HJ.out]; exact HW.out, HCE.out, HBE.out⟩
              case measure => simp [intOf]; omega
end Go.Proofs.Ytoedcieofjcgkaa

namespace Go.Proofs.Ytoedcieofjcgkaa
open Go.RowKit

set_option maxHeartbeats 800000 in
set_option linter.unusedVariables false in
theorem lawCountReachedCrews_big0 (A0 : Option Addr) (n0 c0 : Nat) (x0 : List Int) (A1 : Option Addr) (n1 c1 : Nat) (x1 : List Bool) (k0 : Int) (w : World) (h0 : Holds w A0 (nums x0)) (hx0 : x0.length = n0) (hn0 : n0 ≤ 9223372036854775807) (h1 : Holds w A1 (bits x1)) (hx1 : x1.length = n1) (hn1 : n1 ≤ 9223372036854775807)  (hbig : 1048576 - (n0 : Int) - (n1 : Int) < 0) :
    Calls Try.prog 13 #[.agg #[.slice A0 n0 c0, .slice A1 n1 c1, .int .i64 k0]] w fun e w' => e = .returned (.bool true) ∧ Below w.heap.size w w' := by
  have hb0 := (Whole.fresh w 36 #[.slice A0 n0 c0, .slice A1 n1 c1, .int .i64 k0])
  have ht := below1 w (.cells #[.slice A0 n0 c0, .slice A1 n1 c1, .int .i64 k0] 36)
  have HX0 := Lib.hid hx0
  have HX1 := Lib.hid hx1
  clear hx0 hx1
  obtain ⟨hb0_0, hb0_1, hb0_2⟩ := hb0.cells3
  have hb0_l := hb0.lt
  go_enter Try.func13, Try.ntmps13
  go_wp2_with fail
  refine (szCrew_any A0 n0 c0 A1 n1 c1 k0 (1048576) _ (by omega) (by omega) (by omega) (by omega)).mono ?_
  rintro e v1 ⟨rfl, hb⟩
  rw [crewLeft_bad (by omega)]
  have hz1 : w.heap.size + 1 ≤ v1.heap.size := by have := hb.size; simpa using this
  replace ht := below_then ht hb ht.size
  replace hb0 := hb0.below hb
  clear hb
  clear hb0_0 hb0_1 hb0_2 hb0_l
  go_wp2
  go_ret
  exact ⟨rfl, ht⟩

set_option maxHeartbeats 12800000 in
set_option maxRecDepth 100000 in
set_option linter.unusedSimpArgs false in
set_option linter.unusedVariables false in
theorem lawCountReachedCrews_small (A0 : Option Addr) (n0 c0 : Nat) (x0 : List Int) (A1 : Option Addr) (n1 c1 : Nat) (x1 : List Bool) (k0 : Int) (w : World) (h0 : Holds w A0 (nums x0)) (hx0 : x0.length = n0) (hn0 : n0 ≤ 9223372036854775807) (h1 : Holds w A1 (bits x1)) (hx1 : x1.length = n1) (hn1 : n1 ≤ 9223372036854775807) (g0 : 0 ≤ 1048576 - (n0 : Int) - (n1 : Int)) :
    Calls Try.prog 13 #[.agg #[.slice A0 n0 c0, .slice A1 n1 c1, .int .i64 k0]] w fun e w' => e = .returned (.bool true) ∧ Below w.heap.size w w' := by
  have hb0 := (Whole.fresh w 36 #[.slice A0 n0 c0, .slice A1 n1 c1, .int .i64 k0])
  have ht := below1 w (.cells #[.slice A0 n0 c0, .slice A1 n1 c1, .int .i64 k0] 36)
  have HX0 := Lib.hid hx0
  have HX1 := Lib.hid hx1
  clear hx0 hx1
  obtain ⟨hb0_0, hb0_1, hb0_2⟩ := hb0.cells3
  have hb0_l := hb0.lt
  go_enter Try.func13, Try.ntmps13
  -- region 2
  go_wp2_with fail
  refine (szCrew_any A0 n0 c0 A1 n1 c1 k0 (1048576) _ (by omega) (by omega) (by omega) (by omega)).mono ?_
  rintro e v1 ⟨rfl, hb⟩
  rw [crewLeft_ok (by omega)]
  have hz1 : w.heap.size + 1 ≤ v1.heap.size := by have := hb.size; simpa using this
  replace ht := below_then ht hb ht.size
  replace hb0 := hb0.below hb
  clear hb
  clear hb0_0 hb0_1 hb0_2 hb0_l
  obtain ⟨hb0_0, hb0_1, hb0_2⟩ := hb0.cells3
  have hb0_l := hb0.lt
  -- region 5
  go_wp2_with fail
  refine (toCrew_own A0 n0 c0 x0 A1 n1 c1 x1 k0 _ (by exact h0.below ht) (by exact h1.below ht) HX0.out HX1.out (by omega) (by omega)).mono ?_
  rintro e v2 ⟨gp0, gp1, rfl, hgp0, hwp0, hgp1, hwp1, hb⟩
  have hz2 : v1.heap.size ≤ v2.heap.size := by have := hb.size; simpa using this
  replace ht := below_then ht hb ht.size
  replace hb0 := hb0.below hb
  have hgmp0 : v1.heap.size ≤ gp1 ∧ gp1 < v2.heap.size := ⟨by have := hgp0; (try simp at this); omega, hwp1.lt⟩
  have hp0 := Fresh.of_whole (lo := v1.heap.size) (hi := gp1) hwp0 (by simpa using hgp0) hgp1
  have hp1 := Fresh.of_whole (lo := gp1) (hi := v2.heap.size) hwp1 (Nat.le_refl _) hwp1.lt
  clear hgp0 hwp0 hgp1 hwp1
  clear hb
  clear hb0_0 hb0_1 hb0_2 hb0_l
  obtain ⟨hb0_0, hb0_1, hb0_2⟩ := hb0.cells3
  have hb0_l := hb0.lt
  go_wp2_with fail
  refine (specReachW_any _ n0 _ _ n1 _ x0 x1 k0 _ (by exact hp0.holds) (by exact hp1.holds) HX0.out HX1.out (by omega)).mono ?_
  rintro e v3 ⟨rfl, hb⟩
  have hz3 : v2.heap.size ≤ v3.heap.size := by have := hb.size; simpa using this
  replace ht := below_then ht hb ht.size
  replace hb0 := hb0.below hb
  replace hp0 := hp0.below hb
  replace hp1 := hp1.below hb
  clear hb
  clear hp0 hp1
  clear hb0_0 hb0_1 hb0_2 hb0_l
  obtain ⟨hb0_0, hb0_1, hb0_2⟩ := hb0.cells3
  have hb0_l := hb0.lt
  -- region 6
  go_wp2_with fail
  refine (toCrew_own A0 n0 c0 x0 A1 n1 c1 x1 k0 _ (by exact h0.below ht) (by exact h1.below ht) HX0.out HX1.out (by omega) (by omega)).mono ?_
  rintro e v4 ⟨gx0, gx1, rfl, hgx0, hwx0, hgx1, hwx1, hb⟩
  have hz4 : v3.heap.size ≤ v4.heap.size := by have := hb.size; simpa using this
  replace ht := below_then ht hb ht.size
  replace hb0 := hb0.below hb
  have hgmx0 : v3.heap.size ≤ gx1 ∧ gx1 < v4.heap.size := ⟨by have := hgx0; (try simp at this); omega, hwx1.lt⟩
  have hx0 := Fresh.of_whole (lo := v3.heap.size) (hi := gx1) hwx0 (by simpa using hgx0) hgx1
  have hx1 := Fresh.of_whole (lo := gx1) (hi := v4.heap.size) hwx1 (Nat.le_refl _) hwx1.lt
  clear hgx0 hwx0 hgx1 hwx1
  clear hb
  have hx90 := Whole.fresh v4 39 #[.slice (some ⟨gx0, 0, none⟩) n0 n0, .slice (some ⟨gx1, 0, none⟩) n1 n1, .int .i64 k0]
  replace ht := ht.alloc ht.size (.cells #[.slice (some ⟨gx0, 0, none⟩) n0 n0, .slice (some ⟨gx1, 0, none⟩) n1 n1, .int .i64 k0] 39)
  replace hb0 := hb0.alloc (.cells #[.slice (some ⟨gx0, 0, none⟩) n0 n0, .slice (some ⟨gx1, 0, none⟩) n1 n1, .int .i64 k0] 39)
  replace hx0 := hx0.alloc (.cells #[.slice (some ⟨gx0, 0, none⟩) n0 n0, .slice (some ⟨gx1, 0, none⟩) n1 n1, .int .i64 k0] 39)
  replace hx1 := hx1.alloc (.cells #[.slice (some ⟨gx0, 0, none⟩) n0 n0, .slice (some ⟨gx1, 0, none⟩) n1 n1, .int .i64 k0] 39)
  clear hb0_0 hb0_1 hb0_2 hb0_l
  obtain ⟨hb0_0, hb0_1, hb0_2⟩ := hb0.cells3
  have hb0_l := hb0.lt
  obtain ⟨hx90_0, hx90_1, hx90_2⟩ := hx90.cells3
  have hx90_l := hx90.lt
  -- region 7
  go_wp2_with fail
  refine (implReachW_any _ n0 _ n1 _ x0 x1 k0 _ (by exact hx0.holds) (by exact hx1.holds) HX0.out HX1.out (by omega)).mono ?_
  rintro e v5 ⟨rfl, hb⟩
  have hz5 : v4.heap.size + 1 ≤ v5.heap.size := by have := hb.size; simpa using this
  replace ht := below_then ht hb ht.size
  replace hb0 := hb0.below hb
  replace hx0 := hx0.below hb
  replace hx1 := hx1.below hb
  replace hx90 := hx90.below hb
  clear hb
  clear hb0_0 hb0_1 hb0_2 hb0_l hx90_0 hx90_1 hx90_2 hx90_l
  obtain ⟨hb0_0, hb0_1, hb0_2⟩ := hb0.cells3
  have hb0_l := hb0.lt
  obtain ⟨hx90_0, hx90_1, hx90_2⟩ := hx90.cells3
  have hx90_l := hx90.lt
  -- region 10
  clear hb0_0 hb0_1 hb0_2 hb0_l hx90_0 hx90_1 hx90_2 hx90_l
  go_wp2_with fail
  refine wp_region_held_drew (S := (fun w' => w'.cell? ⟨w.heap.size, 0, none⟩ = some (.slice A0 n0 c0) ∧ w'.cell? ⟨w.heap.size, 1, none⟩ = some (.slice A1 n1 c1) ∧ w'.cell? ⟨w.heap.size, 2, none⟩ = some (.int .i64 k0) ∧ w'.cell? ⟨v4.heap.size, 0, none⟩ = some (.slice (some ⟨gx0, 0, none⟩) n0 n0) ∧ w'.cell? ⟨v4.heap.size, 1, none⟩ = some (.slice (some ⟨gx1, 0, none⟩) n1 n1) ∧ w'.cell? ⟨v4.heap.size, 2, none⟩ = some (.int .i64 k0))) (by kernel_rfl) ⟨hb0.drew.cell 0, hb0.drew.cell 1, hb0.drew.cell 2, hx90.drew.cell 0, hx90.drew.cell 1, hx90.drew.cell 2⟩ (fun hHeld => ?_)
  replace ht := ht.drew
  replace hb0 := hb0.drew
  replace hx0 := hx0.drew
  replace hx1 := hx1.drew
  replace hx90 := hx90.drew
  refine wpAnyH_take (i := 0) (v := ?_) rfl (by kernel_rfl) (by kernel_rfl) (by kernel_rfl) (fun _ _ _ h => h) (Or.inl ⟨rfl, ?_⟩) hHeld ?_
  rotate_left
  · intro w' hS; obtain ⟨s0, s1, s2, s3, s4, s5⟩ := hS; go_simp <;> with_reducible rfl
  simp only [Act.put, List.getElem_toArray, List.getElem_cons_succ, List.getElem_cons_zero, List.setIfInBounds_toArray, List.set_cons_succ, List.set_cons_zero]
  refine wpAnyH_take (i := 1) (v := ?_) rfl (by kernel_rfl) (by kernel_rfl) (by kernel_rfl) (fun _ _ _ h => h) (Or.inl ⟨rfl, ?_⟩) hHeld ?_
  rotate_left
  · intro w' hS; obtain ⟨s0, s1, s2, s3, s4, s5⟩ := hS; go_simp <;> with_reducible rfl
  simp only [Act.put, List.getElem_toArray, List.getElem_cons_succ, List.getElem_cons_zero, List.setIfInBounds_toArray, List.set_cons_succ, List.set_cons_zero]
  refine wpAnyH_ready (rs := [2]) (by kernel_rfl) (by simp) (AllReadyH.cons rfl (fun K hK => ?_) AllReadyH.nil)
  go_simp
  refine (toCrew_own A0 n0 c0 x0 A1 n1 c1 x1 k0 _ (by exact h0.below ht) (by exact h1.below ht) HX0.out HX1.out (by omega) (by omega)).mono ?_
  rintro e v6 ⟨gy0, gy1, rfl, hgy0, hwy0, hgy1, hwy1, hb⟩
  have hz6 : v5.heap.size ≤ v6.heap.size := by have := hb.size; simpa using this
  replace ht := below_then ht hb ht.size
  replace hb0 := hb0.below hb
  replace hx0 := hx0.below hb
  replace hx1 := hx1.below hb
  replace hx90 := hx90.below hb
  have hgmy0 : v5.heap.size ≤ gy1 ∧ gy1 < v6.heap.size := ⟨by have := hgy0; (try simp at this); omega, hwy1.lt⟩
  have hy0 := Fresh.of_whole (lo := v5.heap.size) (hi := gy1) hwy0 (by simpa using hgy0) hgy1
  have hy1 := Fresh.of_whole (lo := gy1) (hi := v6.heap.size) hwy1 (Nat.le_refl _) hwy1.lt
  clear hgy0 hwy0 hgy1 hwy1
  clear hb
  refine hK.out _ _ ⟨hb0.cell 0, hb0.cell 1, hb0.cell 2, hx90.cell 0, hx90.cell 1, hx90.cell 2⟩ (fun hHeld => ?_)
  clear hK K
  try simp only [Act.put, List.getElem_toArray, List.getElem_cons_succ, List.getElem_cons_zero, List.setIfInBounds_toArray, List.set_cons_succ, List.set_cons_zero]
  refine wpAnyH_ready (rs := [3]) (by kernel_rfl) (by simp) (AllReadyH.cons rfl (fun K hK => ?_) AllReadyH.nil)
  go_simp
  refine (eqCrew_yes _ _ n0 _ _ x0 _ _ n1 _ _ x1 k0 _ (by exact hx0.holds) (by exact hy0.holds) (by exact hx1.holds) (by exact hy1.holds) HX0.out HX1.out (by omega) (by omega)).mono ?_
  rintro e v7 ⟨rfl, hb⟩
  have hz7 : v6.heap.size ≤ v7.heap.size := by have := hb.size; simpa using this
  replace ht := below_then ht hb ht.size
  replace hb0 := hb0.below hb
  replace hx0 := hx0.below hb
  replace hx1 := hx1.below hb
  replace hx90 := hx90.below hb
  replace hy0 := hy0.below hb
  replace hy1 := hy1.below hb
  clear hb
  clear hy0 hy1
  refine hK.out _ _ ⟨hb0.cell 0, hb0.cell 1, hb0.cell 2, hx90.cell 0, hx90.cell 1, hx90.cell 2⟩ (fun hHeld => ?_)
  clear hK K
  try simp only [Act.put, List.getElem_toArray, List.getElem_cons_succ, List.getElem_cons_zero, List.setIfInBounds_toArray, List.set_cons_succ, List.set_cons_zero]
  refine wpAnyH_take (i := 4) (v := ?_) rfl (by kernel_rfl) (by kernel_rfl) (by kernel_rfl) (fun _ _ _ h => h) (Or.inl ⟨rfl, ?_⟩) hHeld ?_
  rotate_left
  · intro w' hS; obtain ⟨s0, s1, s2, s3, s4, s5⟩ := hS; go_simp <;> with_reducible rfl
  simp only [Act.put, List.getElem_toArray, List.getElem_cons_succ, List.getElem_cons_zero, List.setIfInBounds_toArray, List.set_cons_succ, List.set_cons_zero]
  refine wpAnyH_done (by kernel_rfl) ?_ _
  clear hHeld
  obtain ⟨hb0_0, hb0_1, hb0_2⟩ := hb0.cells3
  have hb0_l := hb0.lt
  obtain ⟨hx90_0, hx90_1, hx90_2⟩ := hx90.cells3
  have hx90_l := hx90.lt
  go_wp2
  go_ret
  exact ⟨rfl, ht⟩

theorem lawCountReachedCrews_all (A0 : Option Addr) (n0 c0 : Nat) (x0 : List Int) (A1 : Option Addr) (n1 c1 : Nat) (x1 : List Bool) (k0 : Int) (w : World) (h0 : Holds w A0 (nums x0)) (hx0 : x0.length = n0) (hn0 : n0 ≤ 9223372036854775807) (h1 : Holds w A1 (bits x1)) (hx1 : x1.length = n1) (hn1 : n1 ≤ 9223372036854775807) :
    Calls Try.prog 13 #[.agg #[.slice A0 n0 c0, .slice A1 n1 c1, .int .i64 k0]] w fun e w' => e = .returned (.bool true) ∧ Below w.heap.size w w' := by
  rcases (inferInstance : Decidable (0 ≤ 1048576 - (n0 : Int) - (n1 : Int))) with g0 | g0
  · exact lawCountReachedCrews_big0 A0 n0 c0 x0 A1 n1 c1 x1 k0 w h0 hx0 hn0 h1 hx1 hn1  (by omega)
  exact lawCountReachedCrews_small A0 n0 c0 x0 A1 n1 c1 x1 k0 w h0 hx0 hn0 h1 hx1 hn1 g0
end Go.Proofs.Ytoedcieofjcgkaa

namespace Go.Proofs.Ytoedcieofjcgkaa.countReachedCrews
open Go.ChangeShapes Go.WideShapes Go.ChangeAt Go.RowKit Go.Joins

set_option maxRecDepth 100000 in
theorem lifted (os : Os) (started : os.Started) (H : Type) (enc : TypeId × Value → H) :
    ReturnsInHanded {} Try.checked os 13 .any (Rows.fnExactCountReachedCrewsSpec.pre6 enc Try.prog Try.f13 Rows.fnExactCountReachedCrewsRow.domain false) (Rows.fnExactCountReachedCrewsSpec.post enc Try.prog Try.f13 false true false false) := by
  refine returnsInHanded_of_change (C := Try.checked) own started (by kernel_rfl) Try.func13
    (ChangeSpec.witness6 (enc := enc) (C := Try.checked) false ⟨#[], #[.agg #[.slice none 0 0, .slice none 0 0, .int .i64 0]], []⟩ 8 (by kernel_rfl) (by kernel_rfl) (by kernel_rfl) (by kernel_rfl)) ?_
  intro W base args ds gs before hval0 hW hcnd _
  have hval : ∀ (j : Nat) t v, Try.f13.params[j]? = some t → args[j]? = some v → Value.okWide Try.prog W .any base t v := hval0
  have hW' := hW
  obtain ⟨p, q, hA0, hV, rfl, hfz, hnd⟩ := hW
  have hA : DataW.TrodAll enc Try.prog W 0 (fun _ => true) true Try.f13.params.toList args.toList ds p := hA0
  rw [Try.params13] at hA hval
  obtain ⟨v0, vs0, d0, ds0, p0, q0, hargs, rfl, rfl, h0, r0⟩ := trodAll_cons hA
  obtain ⟨rfl, rfl, rfl⟩ := trodAll_nil r0
  obtain rfl : args = #[v0] := by cases args; simp_all
  obtain ⟨rfl, rfl⟩ := trodVars_none hV
  have lt0 : ∀ x ∈ p0, x.block < W.heap.size := by obtain ⟨m, hm⟩ := h0; exact DataW.trod_lt m _ _ _ hm
  obtain ⟨A0, n0, c0, xs0, B0, q0_, d0, ys0, k0, hv0, hr0, hx0, hn0, hs0, hy0, hm0⟩ := open_crew (hval 0 36 v0 rfl rfl) h0
  subst hv0
  clear hA0 hval0
  refine (lawCountReachedCrews_all A0 n0 c0 xs0 B0 q0_ d0 ys0 k0 W hr0 hx0 hn0 hs0 hy0 hm0).mono fun e W' ⟨he, bel⟩ => ?_
  subst he
  exact ⟨_, rfl, _, _, _, [], _, [], hW', trodAll_mk1 (shut_bool Try.underlying4 _), (trodAll_cons_mk (Below.trod laidOut (by kernel_rfl) (of_decide_eq_true (by kernel_rfl)) h0 bel lt0) trodAll_mk0), rfl, bel.frame _, fun h => by cases h⟩

set_option maxHeartbeats 8000000 in
theorem facts : joinedFacts Try.prog 13 Try.f13 Rows.fnExactCountReachedCrewsSpec Rows.fnExactCountReachedCrewsRow = true := by
  unfold joinedFacts
  rw [enter.laid, enter.rowed, enter.heard, enter.keys, enter.mayEnter, enter.liftsFinal, enter.make]
  simp only [Bool.and_eq_true]
  repeat' apply And.intro
  all_goals (first | exact True.intro | (as_aux_lemma => kernel_rfl))

theorem named_ : Try.prog.funcNamed Rows.fnExactCountReachedCrewsRow.func = some 13 := by kernel_rfl
theorem instance_ : Try.f13.isInstance Try.prog Rows.fnExactCountReachedCrewsRow.origin Rows.fnExactCountReachedCrewsRow.targs := of_decide_eq_true (by kernel_rfl)
theorem wrapper_ : Try.f13.isWrapper Try.prog Rows.fnExactCountReachedCrewsRow.wrapper Rows.fnExactCountReachedCrewsRow.mainSum := by
  unfold Func.isWrapper; first | (rw [if_pos (by decide +kernel)]; kernel_rfl) | (rw [if_neg (by decide +kernel)]; exact ⟨rfl, rfl⟩)

theorem proved : Rows.FnExactCountReachedCrewsSaid :=
  OpenClaim.holds_of_wide 13 Try.f13 rfl rfl rfl rfl rfl rfl rfl ⟨rfl, rfl, rfl, rfl, rfl⟩ rfl rfl rfl rfl rfl named_ Try.func13 facts
    instance_ wrapper_ (fun os started H enc _ => lifted os started H enc)
#print axioms proved
end Go.Proofs.Ytoedcieofjcgkaa.countReachedCrews
