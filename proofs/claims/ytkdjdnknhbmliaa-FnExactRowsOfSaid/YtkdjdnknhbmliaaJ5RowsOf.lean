/-
  What is proved: contracts of the model's order of rows (cuBefore) and of its rows (cuRows). Conditions: the lists are read as they lie; at most four couples.
  What is proved: a contract of the model's RowBoat. Conditions: the arguments are read as they lie.
  What is proved: plain facts on lists of lists that a call hands back. Conditions: none.
  What is proved: a contract of the model's RowsOf. Conditions: the arguments are read as they lie.
  What is proved: a contract of the program's RowsOf. Conditions: the arguments are read as they lie.
-/
import Derived.BigQuiet
import Derived.Deep.QuietTactic
import Derived.Deep.RegionHeld3
import Derived.Deep.DeepCutAuto
import Derived.Laws.AppendOwnNone
import Derived.Test.YtkdjdnknhbmliaaJ4RowsOf
namespace Go.Proofs.Ytkdjdnknhbmliaa
open Go.RowKit

theorem lexB_same {a b : List Int} {k : Nat} (ha : k < a.length) (hb : k < b.length) (he : a[k] = b[k]) : lexB (a.drop k) (b.drop k) = lexB (a.drop (k + 1)) (b.drop (k + 1)) := by
  rw [List.drop_eq_getElem_cons ha, List.drop_eq_getElem_cons hb, lexB, if_pos he]
theorem lexB_part {a b : List Int} {k : Nat} (ha : k < a.length) (hb : k < b.length) (he : a[k] ≠ b[k]) : lexB (a.drop k) (b.drop k) = decide (a[k] < b[k]) := by
  rw [List.drop_eq_getElem_cons ha, List.drop_eq_getElem_cons hb, lexB, if_neg he]
theorem lexB_end {a b : List Int} {k : Nat} (ha : k ≤ a.length) (hb : k ≤ b.length) (h : ¬ (k < a.length ∧ k < b.length)) : lexB (a.drop k) (b.drop k) = decide (a.length < b.length) := by
  by_cases h1 : k < a.length
  · have h2 : b.length ≤ k := by omega
    rw [List.drop_eq_getElem_cons h1, List.drop_of_length_le h2, lexB]
    simp; omega
  · have h2 : a.length ≤ k := by omega
    rw [List.drop_of_length_le h2]
    by_cases h3 : k < b.length
    · rw [List.drop_eq_getElem_cons h3, lexB]
      simp; omega
    · rw [List.drop_of_length_le (by omega), lexB]
      simp; omega

set_option maxHeartbeats 1600000 in
theorem cuBefore_any (A B : Option Addr) (n c m d : Nat) (x y : List Int) (w : World) (hA : Holds w A (nums x)) (hB : Holds w B (nums y)) (hx : x.length = n) (hy : y.length = m) (hn : n ≤ 1048576) (hm : m ≤ 1048576) :
    Calls Try.prog 112 #[.slice A n c, .slice B m d] w fun e w' => e = .returned (.bool (lexB x y)) ∧ Below w.heap.size w w' := by
  subst hx hy
  go_enter Try.func112, Try.ntmps112
  go_wp2
  go_loopw [5] (fun i wr => ∃ k q : Nat, k ≤ x.length ∧ k ≤ y.length ∧ i = .int .i64 k ∧ wr = w.drewN q ∧ lexB x y = lexB (x.drop k) (y.drop k)) (fun i _ => x.length - (intOf i).toNat)
  case atStart => exact ⟨0, 0, Nat.zero_le _, Nat.zero_le _, rfl, rfl, rfl⟩
  case round =>
    obtain ⟨k, q, hk1, hk2, rfl, rfl, hl⟩ := hrel
    by_cases h1 : k < x.length
    · by_cases h2 : k < y.length
      · have e1 : decide ((k : Int) < (x.length : Int)) = true := by simp; omega
        have e2 : decide ((k : Int) < (y.length : Int)) = true := by simp; omega
        obtain ⟨b, o, rfl, hb, hc⟩ := hA.look (k := k) (by simpa [nums] using h1)
        obtain ⟨b', o', rfl, hb', hc'⟩ := hB.look (k := k) (by simpa [nums] using h2)
        simp only [nums, List.getElem_map] at hc hc'
        by_cases he : x[k] = y[k]
        · have hne : (!(x[k] == y[k])) = false := by simp [he]
          have hne2 : (x[k] != y[k]) = false := by simp [he]
          have HL := Lib.hid (hl.trans (lexB_same h1 h2 he))
          clear he hl
          go_wp2
          go_quiet (fail)
          go_wp2
          go_roundw
          case rel => exact ⟨k + 1, _, by omega, by omega, by go_num, rfl, HL.out⟩
          case measure => simp [intOf]; omega
        · have hne : (!(x[k] == y[k])) = true := by simp [he]
          have hne2 : (x[k] != y[k]) = true := by simp [he]
          have HL := Lib.hid (hl.trans (lexB_part h1 h2 he))
          clear he hl
          go_wp2
          go_quiet (fail)
          go_wp2
          go_quiet (fail)
          go_wp2
          go_ret
          exact ⟨ret_of (by rw [HL.out]; rfl), below_draws (below_draws (below_draws (Below.refl _ _) q) _) _⟩
      · have e1 : decide ((k : Int) < (x.length : Int)) = true := by simp; omega
        have e2 : decide ((k : Int) < (y.length : Int)) = false := by simp; omega
        have HL := Lib.hid (hl.trans (lexB_end hk1 hk2 (by omega)))
        clear hl
        go_wp2
        go_ret
        exact ⟨ret_of (by rw [HL.out]; simp), below_draws (Below.refl _ _) q⟩
    · have e1 : decide ((k : Int) < (x.length : Int)) = false := by simp; omega
      have HL := Lib.hid (hl.trans (lexB_end hk1 hk2 (by omega)))
      clear hl
      go_wp2
      go_ret
      exact ⟨ret_of (by rw [HL.out]; simp), below_draws (Below.refl _ _) q⟩

def ofN (l : List Nat) : List Int := l.map Int.ofNat
theorem ofN_len (l : List Nat) : (ofN l).length = l.length := by simp [ofN]
theorem rowsM_next (k : Nat) (q : Int) (x n g : Nat) (out : List Nat) : rowsM k q x (n + 1) g out = rowsM k q x n (g + 1) (if canM k q x g then insG out g else out) := rfl
theorem spotG_le (out : List Nat) (g : Nat) : ∀ k, spotG out g k ≤ k
  | 0 => Nat.le_refl _
  | k + 1 => by
    rw [spotG]
    split
    · have := spotG_le out g k; omega
    · omega
theorem insG_len (out : List Nat) (g : Nat) : (insG out g).length = out.length + 1 := by
  have := spotG_le out g out.length
  simp [insG]
  omega
theorem insG_mem {out : List Nat} {g b : Nat} (h : ∀ y ∈ out, y < b) (hg : g < b) : ∀ y ∈ insG out g, y < b := by
  intro y hy
  simp only [insG, List.mem_append, List.mem_singleton] at hy
  rcases hy with (hy | rfl) | hy
  · exact h y (List.mem_of_mem_take hy)
  · exact hg
  · exact h y (List.mem_of_mem_drop hy)

theorem listOf_le (g : Nat) : (listOf g).length ≤ 8 := by
  unfold listOf listTo
  rw [List.length_map]
  exact Nat.le_trans (List.length_filter_le _ _) (by simp)
theorem whole_grownR {w w' : World} {g : Nat} {ty : TypeId} {cs : Array Value} {row : Option Nat} (h : Whole w g ty cs) (hg : w.grownBy w' row) (hne : ¬ row = some g) : Whole w' g ty cs := (hg.block g h.lt (fun e => hne e.symm)).trans h

set_option maxHeartbeats 12800000 in
set_option maxRecDepth 100000 in
set_option linter.unusedSimpArgs false in
theorem cuRows_any (k : Nat) (q : Int) (x : Nat) (w : World) (hk : k ≤ 4) (hx : x / 2 < 2 ^ (2 * k)) :
    Calls Try.prog 65 #[.agg #[.int .i64 k, .int .i64 q], .int .i64 x] w (OwnPost (ofN (rowsM k q x (2 ^ (2 * k) - 1) 1 [])) w) := by
  obtain ⟨i0, hi, hz0, hz1, hz2⟩ := info_parts info_int
  have HI := Lib.hid hi
  have HZ0 := Lib.hid hz0
  have HZ1 := Lib.hid hz1
  have HZ2 := Lib.hid hz2
  have hp := pow_c hk
  have hp0 : 1 ≤ 2 ^ (2 * k) := Nat.one_le_two_pow
  have H0 := Lib.hid (Whole.fresh w 31 #[.int .i64 k, .int .i64 q])
  have HT := Lib.hid (below1 w (.cells #[.int .i64 k, .int .i64 q] 31))
  have HSZ := fun W => Lib.hid (cuSize_any k q W hk)
  have HCAN := fun W g h1 h2 => Lib.hid (cuCan_any k q x g W hk hx h1 h2)
  generalize hR : rowsM k q x (2 ^ (2 * k) - 1) 1 [] = R
  generalize 2 ^ (2 * k) = N at hp hp0 HSZ HCAN hR
  have HR := Lib.hid hR
  clear hi hz0 hz1 hz2 hx hR
  go_enter Try.func65, Try.ntmps65
  go_wp2
  go_loopw [5, 6] (fun v i wr => ∃ (g : Nat) (outs : List Nat) (E : Option Addr) (d : Nat), 1 ≤ g ∧ g ≤ N ∧ i = .int .i64 g ∧ v = .slice E outs.length d ∧ wr.ownsRow w.heap.size 3 1 (.slice E outs.length d) outs.length (nums (ofN outs)) ∧ (∀ y ∈ outs, y < 256) ∧ outs.length < g ∧ rowsM k q x (N - g) g outs = R ∧ Whole wr w.heap.size 31 #[.int .i64 k, .int .i64 q] ∧ Below w.heap.size w wr) (fun _ i _ => N - (intOf i).toNat)
  case atStart => exact ⟨1, [], none, 0, Nat.le_refl _, hp0, rfl, rfl, World.ownsRow_nil _ _ _ _, (fun y hy => absurd hy (List.not_mem_nil)), Nat.zero_lt_one, HR.out, H0.out, HT.out⟩
  case round =>
    obtain ⟨wo, rfl⟩ : ∃ wo : World, wo = wr := ⟨_, rfl⟩
    clear H0 HT
    obtain ⟨g, outs, E, d, hg1, hgN, rfl, rfl, hown, hsm, hlen, hrm, h0, hb⟩ := hrel
    obtain ⟨c0, c1, -, -⟩ := h0.two
    have HOWN := Lib.hid hown
    have HSM := Lib.hid hsm
    have HRM := Lib.hid hrm
    have H0 := Lib.hid h0
    have HB := Lib.hid hb
    have hbs := hb.size
    have h0l := h0.lt
    clear hown hsm hrm h0 hb
    go_wp2_with fail
    refine (HSZ _).out.mono ?_
    rintro e w1 ⟨rfl, hb1⟩
    by_cases hlt : g < N
    · have hd : decide ((g : Int) < (N : Int)) = true := by simp; omega
      have HST : Hid (rowsM k q x (N - (g + 1)) (g + 1) (if canM k q x g then insG outs g else outs) = R) := by
        show _ = _
        rw [← rowsM_next, show N - (g + 1) + 1 = N - g by omega]
        exact HRM.out
      have HB1 := Lib.hid hb1
      obtain ⟨c2, c3, -, -⟩ := (H0.out.below hb1).two
      clear hb1 c0 c1
      go_wp2_with fail
      refine (HCAN _ g hg1 hlt).out.mono ?_
      rintro e w2 ⟨rfl, hb2⟩
      have HB2 := Lib.hid (below_then HB1.out hb2 HB1.out.size)
      clear hb2 c2 c3
      cases hcm : canM k q x g
      · rw [hcm] at HST
        have H02 := Lib.hid (H0.out.below HB2.out)
        have HO2 := Lib.hid (own_below HOWN.out HB2.out)
        have HBN := Lib.hid (below_then HB.out HB2.out hbs)
        clear hcm
        go_wp2
        go_roundw
        case rel => exact ⟨g + 1, outs, E, d, by omega, by omega, by go_num, rfl, HO2.out, HSM.out, by omega, HST.out, H02.out, HBN.out⟩
        case measure => simp [intOf]; omega
      · rw [hcm, if_pos rfl] at HST
        have hs2 := HB2.out.size
        have HO2 := Lib.hid (own_below HOWN.out HB2.out)
        have H02 := Lib.hid (H0.out.below HB2.out)
        have HBN := Lib.hid (below_then HB.out HB2.out hbs)
        clear hcm HB1 HB2 HOWN HB H0
        rcases own_some HO2.out with ⟨rfl, hl0, rfl⟩ | ⟨g0, rfl, hld⟩
        · obtain rfl : outs = [] := List.length_eq_zero_iff.1 hl0
          have HSM' : Hid (∀ y ∈ [g], y < 256) := fun y hy => by simp at hy; omega
          rw [show insG [] g = [g] from rfl] at HST
          rw [show ([] : List Nat).length = 0 from rfl] at HO2
          clear hl0 hs2 HSM HRM hlen
          go_wp2
          go_loopw [7] (fun kk wr => kk = .int .i64 (0 : Nat) ∧ Below w2.heap.size w2 wr) (fun kk _ => (intOf kk).toNat)
          case atStart => exact ⟨by first | rfl | simp, Below.refl _ _⟩
          case round =>
            obtain ⟨w5, rfl⟩ : ∃ w5 : World, w5 = wr := ⟨_, rfl⟩
            obtain ⟨rfl, hb5⟩ := hrel
            go_wp2
            go_quiet (fail)
            have HBT := Lib.hid (below_draws hb5 nq)
            obtain ⟨wT, hwT⟩ : ∃ wT, wT = w5.drewN nq := ⟨_, rfl⟩
            rw [← hwT] at HBT ⊢
            clear hwT hb5
            have hs2 := HBN.out.size
            have hpd : 0 ≤ 0 := by omega
            have hp0' : (0 : Int) ≤ ((0 : Nat) : Int) := by omega
            have hpdi : ((0 : Nat) : Int) ≤ ((0 : Nat) : Int) := by omega
            have hpji : ((0 : Nat) : Int) ≤ ((0 : Nat) : Int) := by omega
            have HTK : Hid (((ofN []).take 0).length = 0) := by show _ = _; rw [List.length_take, ofN_len]; omega
            have HDL : Hid ((nums ((ofN []).drop 0)).length = 0 * 1) := by first | rfl | (show _ = _; rw [nums_len, List.length_drop, ofN_len]; omega)
            have HDO := Lib.hid (ints_one ((ofN []).drop 0))
            have hsT := HBT.out.size
            have hAl : Holds wT none (nums ((ofN []).take 0)) := Holds.empty _ _
            go_wp2_with fail
            refine (l1Own_any none _ _ ((ofN []).take 0) _ hAl HTK.out (by omega) (fun h => by first | rfl | cases h)).mono ?_
            rintro e w9 ⟨E1, c9, rfl, hown1, hb9⟩
            rw [HTK.out] at hown1 ⊢
            have hs9 := hb9.size
            have HO1 := Lib.hid (hown1.alloc (.cells #[.int .i64 ((g : Nat) : Int)] 3))
            have HNEW := Lib.hid (cells_fresh w9 3 #[.int .i64 ((g : Nat) : Int)])
            have HONE : Hid (∀ u ∈ [Value.int .i64 ((g : Nat) : Int)], u.oneCell' = true) := fun u hu => by simp at hu; subst hu; rfl
            have HB9 := Lib.hid hb9
            clear hown1 hb9 hAl
            go_wp2_with (first | (at_builtin; refine wpList_append_own _ rfl (.tmp 40) (.tmp 42) 40 rfl wT.heap.size 3 i0 (.int .i64 0) 1 8 Try.underlying40 HI.out HZ0.out HZ1.out HZ2.out rfl (by decide) _ 0 (nums ((ofN []).take 0)) rfl HO1.out ⟨w9.heap.size, 0, none⟩ 1 1 [.int .i64 ((g : Nat) : Int)] rfl rfl HNEW.out HONE.out (by unfold maxLen; omega) (by omega) (by simp; omega) ?_; intro v2 wA hown2 hg2 _; obtain ⟨g2, c2, hv2⟩ := own_slice hown2; subst hv2; have hsA : w9.heap.size + 1 ≤ wA.heap.size := (by have := hg2.size; simpa using this); have HO2' := Lib.hid hown2; have HG2 := Lib.hid hg2; clear hown2 hg2) | (at_builtin; refine wpList_append_own_none rfl (.tmp 44) (.tmp 47) 40 rfl wT.heap.size 3 i0 1 Try.underlying40 HI.out _ (0 + 1) _ rfl HO2'.out rfl ?_))
            have HO3 := Lib.hid (own_lower HO2'.out (base' := w.heap.size) (by omega))
            have HL3 : Hid (nums ((ofN []).take 0) ++ [.int .i64 ((g : Nat) : Int)] = nums (ofN ([g]))) := by
              rfl
            have HBE := Lib.hid (((below_then (below_then HBN.out HBT.out (by omega)) HB9.out (by omega)).alloc (by omega) (.cells #[.int .i64 ((g : Nat) : Int)] 3)).grown HG2.out (by simp; omega) (fun kk hkk => by have := (HO1.out.lt kk hkk).1; omega))
            have HCB := Lib.hid (whole_grownR (((H02.out.below HBT.out).below HB9.out).alloc (.cells #[.int .i64 ((g : Nat) : Int)] 3)) HG2.out (fun hkk => by have := (HO1.out.lt _ hkk).1; have := H02.out.lt; have := HBT.out.size; omega))
            go_roundw
            case rel => exact ⟨g + 1, [g], some ⟨g2, 0, none⟩, c2, by omega, by omega, by go_num, rfl, by rw [← HL3.out]; exact HO3.out, HSM'.out, by show 1 < _; omega, HST.out, HCB.out, HBE.out⟩
            case measure => first | (simp [intOf]; done) | (simp [intOf]; omega)
        · obtain ⟨hgl, hgb, hcells⟩ := own_cells HO2.out
          have HCE := Lib.hid hcells
          have hs2' := HBN.out.size
          clear hcells
          go_wp2
          go_loopw [7] (fun kk wr => ∃ p : Nat, p ≤ outs.length ∧ kk = .int .i64 p ∧ spotG outs g outs.length = spotG outs g p ∧ Below w2.heap.size w2 wr) (fun kk _ => (intOf kk).toNat)
          case atStart => exact ⟨outs.length, Nat.le_refl _, rfl, rfl, Below.refl _ _⟩
          case round =>
            obtain ⟨w5, rfl⟩ : ∃ w5 : World, w5 = wr := ⟨_, rfl⟩
            obtain ⟨p, hpl, rfl, hsp, hb5⟩ := hrel
            cases p with
            | zero =>
              rw [show spotG outs g 0 = 0 from rfl] at hsp
              by_cases hdne : d = 0
              · have HL0 : Hid (outs.length = 0) := by show _ = _; omega
                subst hdne
                go_wp2
                go_quiet (fail)
                have HBT := Lib.hid (below_draws hb5 nq)
                obtain ⟨wT, hwT⟩ : ∃ wT, wT = w5.drewN nq := ⟨_, rfl⟩
                rw [← hwT] at HBT ⊢
                clear hwT hb5
                have HSP := Lib.hid hsp
                have hpd : 0 ≤ 0 := by omega
                have hp0' : (0 : Int) ≤ ((0 : Nat) : Int) := by omega
                have hpdi : ((0 : Nat) : Int) ≤ ((0 : Nat) : Int) := by omega
                have hpji : ((0 : Nat) : Int) ≤ ((outs.length : Nat) : Int) := by omega
                have HTK : Hid (((ofN outs).take 0).length = 0) := by show _ = _; rw [List.length_take, ofN_len]; omega
                have HDL : Hid ((nums ((ofN outs).drop 0)).length = 0 * 1) := by first | rfl | (show _ = _; rw [nums_len, List.length_drop, ofN_len]; omega)
                have HDO := Lib.hid (ints_one ((ofN outs).drop 0))
                have hsT := HBT.out.size
                have HCT : Hid (∀ i u, (nums (ofN outs))[i]? = some u → wT.cell? ⟨g0, i, none⟩ = some u) := fun i u hu => (HBT.out.cell (p := ⟨g0, i, none⟩) hgl).trans (HCE.out i u hu)
                have hAl : Holds wT (some ⟨g0, 0, none⟩) (nums ((ofN outs).take 0)) := by
                  refine .inr ⟨g0, 0, rfl, Nat.lt_of_lt_of_le hgl hsT, fun i u hu => ?_⟩
                  rw [Nat.zero_add]
                  refine HCT.out i u ?_
                  have hi : i < 0 := by have := (List.getElem?_eq_some_iff.1 hu).1; rw [nums_len, HTK.out] at this; exact this
                  first | (exfalso; omega) | (rw [← hu]; simp only [nums, List.map_take, List.getElem?_take, if_pos hi])
                clear hsp
                go_wp2_with fail
                refine (l1Own_any (some ⟨g0, 0, none⟩) _ _ ((ofN outs).take 0) _ hAl HTK.out (by omega) (fun h => by first | rfl | cases h)).mono ?_
                rintro e w9 ⟨E1, c9, rfl, hown1, hb9⟩
                rw [HTK.out] at hown1 ⊢
                have hs9 := hb9.size
                have HO1 := Lib.hid (hown1.alloc (.cells #[.int .i64 ((g : Nat) : Int)] 3))
                have HNEW := Lib.hid (cells_fresh w9 3 #[.int .i64 ((g : Nat) : Int)])
                have HONE : Hid (∀ u ∈ [Value.int .i64 ((g : Nat) : Int)], u.oneCell' = true) := fun u hu => by simp at hu; subst hu; rfl
                have HB9 := Lib.hid hb9
                clear hown1 hb9 hAl
                go_wp2_with (first | (at_builtin; refine wpList_append_own _ rfl (.tmp 40) (.tmp 42) 40 rfl wT.heap.size 3 i0 (.int .i64 0) 1 8 Try.underlying40 HI.out HZ0.out HZ1.out HZ2.out rfl (by decide) _ 0 (nums ((ofN outs).take 0)) rfl HO1.out ⟨w9.heap.size, 0, none⟩ 1 1 [.int .i64 ((g : Nat) : Int)] rfl rfl HNEW.out HONE.out (by unfold maxLen; omega) (by omega) (by simp; omega) ?_; intro v2 wA hown2 hg2 _; obtain ⟨g2, c2, hv2⟩ := own_slice hown2; subst hv2; have hsA : w9.heap.size + 1 ≤ wA.heap.size := (by have := hg2.size; simpa using this); have HO2' := Lib.hid hown2; have HG2 := Lib.hid hg2; have HNA : Hid (∀ i u, (nums ((ofN outs).drop 0))[i]? = some u → wA.cell? ((⟨g0, 0, none⟩ : Addr).add i) = some u) := (fun i u hu => by rw [show (⟨g0, 0, none⟩ : Addr).add i = ⟨g0, 0 + i, none⟩ from by unfold Addr.add; split <;> simp_all]; exfalso; have h1 := (List.getElem?_eq_some_iff.1 hu).1; rw [HDL.out] at h1; omega); clear hown2 hg2) | (at_builtin; refine wpList_append_own _ rfl (.tmp 44) (.tmp 47) 40 rfl wT.heap.size 3 i0 (.int .i64 0) 1 8 Try.underlying40 HI.out HZ0.out HZ1.out HZ2.out rfl (by decide) (.slice (some ⟨g2, 0, none⟩) (0 + 1) c2) _ _ rfl HO2'.out ⟨g0, 0, none⟩ 0 0 (nums ((ofN outs).drop 0)) rfl HDL.out HNA.out HDO.out (by unfold maxLen; omega) (by omega) (by omega) ?_; intro v3 wB hown3 hg3 _))
                rw [show 0 + 1 + 0 = outs.length + 1 by omega] at hown3
                obtain ⟨A3, c3, rfl⟩ := own_shape hown3
                have HO3 := Lib.hid (own_lower hown3 (base' := w.heap.size) (by omega))
                have HL3 : Hid ((nums ((ofN outs).take 0) ++ [.int .i64 ((g : Nat) : Int)]) ++ nums ((ofN outs).drop 0) = nums (ofN (insG outs g))) := by
                  show _ = _
                  rw [insG, HSP.out]
                  simp [nums, ofN]
                have HBE := Lib.hid ((((below_then (below_then HBN.out HBT.out (by omega)) HB9.out (by omega)).alloc (by omega) (.cells #[.int .i64 ((g : Nat) : Int)] 3)).grown HG2.out (by simp; omega) (fun kk hkk => by have := (HO1.out.lt kk hkk).1; omega)).grown hg3 (by omega) (fun kk hkk => by have := (HO2'.out.lt kk hkk).1; omega))
                have HCB := Lib.hid (whole_grownR (whole_grownR (((H02.out.below HBT.out).below HB9.out).alloc (.cells #[.int .i64 ((g : Nat) : Int)] 3)) HG2.out (fun hkk => by have := (HO1.out.lt _ hkk).1; have := H02.out.lt; have := HBT.out.size; omega)) hg3 (fun hkk => by have := (HO2'.out.lt _ hkk).1; have := H02.out.lt; have := HBT.out.size; omega))
                have HNL := Lib.hid (insG_len outs g)
                clear hown3 hg3
                go_roundw
                case rel => exact ⟨g + 1, insG outs g, A3, c3, by omega, by omega, by go_num, by rw [HNL.out], by rw [HNL.out, ← HL3.out]; exact HO3.out, insG_mem HSM.out (by omega), by rw [insG_len]; omega, HST.out, HCB.out, HBE.out⟩
                case measure => first | (simp [intOf]; done) | (simp [intOf]; omega)
              · go_wp2
                go_quiet (fail)
                have HBT := Lib.hid (below_draws hb5 nq)
                obtain ⟨wT, hwT⟩ : ∃ wT, wT = w5.drewN nq := ⟨_, rfl⟩
                rw [← hwT] at HBT ⊢
                clear hwT hb5
                have HSP := Lib.hid hsp
                have hpd : 0 ≤ d := by omega
                have hp0' : (0 : Int) ≤ ((0 : Nat) : Int) := by omega
                have hpdi : ((0 : Nat) : Int) ≤ ((d : Nat) : Int) := by omega
                have hpji : ((0 : Nat) : Int) ≤ ((outs.length : Nat) : Int) := by omega
                have HTK : Hid (((ofN outs).take 0).length = 0) := by show _ = _; rw [List.length_take, ofN_len]; omega
                have HDL : Hid ((nums ((ofN outs).drop 0)).length = outs.length * 1) := by first | rfl | (show _ = _; rw [nums_len, List.length_drop, ofN_len]; omega)
                have HDO := Lib.hid (ints_one ((ofN outs).drop 0))
                have hsT := HBT.out.size
                have HCT : Hid (∀ i u, (nums (ofN outs))[i]? = some u → wT.cell? ⟨g0, i, none⟩ = some u) := fun i u hu => (HBT.out.cell (p := ⟨g0, i, none⟩) hgl).trans (HCE.out i u hu)
                have hAl : Holds wT (some ⟨g0, 0, none⟩) (nums ((ofN outs).take 0)) := by
                  refine .inr ⟨g0, 0, rfl, Nat.lt_of_lt_of_le hgl hsT, fun i u hu => ?_⟩
                  rw [Nat.zero_add]
                  refine HCT.out i u ?_
                  have hi : i < 0 := by have := (List.getElem?_eq_some_iff.1 hu).1; rw [nums_len, HTK.out] at this; exact this
                  first | (exfalso; omega) | (rw [← hu]; simp only [nums, List.map_take, List.getElem?_take, if_pos hi])
                clear hsp
                go_wp2_with fail
                refine (l1Own_any (some ⟨g0, 0, none⟩) _ _ ((ofN outs).take 0) _ hAl HTK.out (by omega) (fun h => by first | rfl | cases h)).mono ?_
                rintro e w9 ⟨E1, c9, rfl, hown1, hb9⟩
                rw [HTK.out] at hown1 ⊢
                have hs9 := hb9.size
                have HO1 := Lib.hid (hown1.alloc (.cells #[.int .i64 ((g : Nat) : Int)] 3))
                have HNEW := Lib.hid (cells_fresh w9 3 #[.int .i64 ((g : Nat) : Int)])
                have HONE : Hid (∀ u ∈ [Value.int .i64 ((g : Nat) : Int)], u.oneCell' = true) := fun u hu => by simp at hu; subst hu; rfl
                have HB9 := Lib.hid hb9
                clear hown1 hb9 hAl
                go_wp2_with (first | (at_builtin; refine wpList_append_own _ rfl (.tmp 40) (.tmp 42) 40 rfl wT.heap.size 3 i0 (.int .i64 0) 1 8 Try.underlying40 HI.out HZ0.out HZ1.out HZ2.out rfl (by decide) _ 0 (nums ((ofN outs).take 0)) rfl HO1.out ⟨w9.heap.size, 0, none⟩ 1 1 [.int .i64 ((g : Nat) : Int)] rfl rfl HNEW.out HONE.out (by unfold maxLen; omega) (by omega) (by simp; omega) ?_; intro v2 wA hown2 hg2 _; obtain ⟨g2, c2, hv2⟩ := own_slice hown2; subst hv2; have hsA : w9.heap.size + 1 ≤ wA.heap.size := (by have := hg2.size; simpa using this); have HO2' := Lib.hid hown2; have HG2 := Lib.hid hg2; have HNA : Hid (∀ i u, (nums ((ofN outs).drop 0))[i]? = some u → wA.cell? ((⟨g0, 0, none⟩ : Addr).add i) = some u) := (fun i u hu => by rw [show (⟨g0, 0, none⟩ : Addr).add i = ⟨g0, 0 + i, none⟩ from by unfold Addr.add; split <;> simp_all]; exact (cell_grown hg2 (by simp; omega) (fun hh => by have := (HO1.out.lt g0 hh).1; omega)).trans ((World.cell?_alloc_lt w9 _ ⟨g0, 0 + i, none⟩ (by show g0 < _; omega)).trans ((HB9.out.cell (p := ⟨g0, 0 + i, none⟩) (by show g0 < _; omega)).trans (HCT.out _ u (by rw [← hu]; simp [nums]))))); clear hown2 hg2) | (at_builtin; refine wpList_append_own _ rfl (.tmp 44) (.tmp 47) 40 rfl wT.heap.size 3 i0 (.int .i64 0) 1 8 Try.underlying40 HI.out HZ0.out HZ1.out HZ2.out rfl (by decide) (.slice (some ⟨g2, 0, none⟩) (0 + 1) c2) _ _ rfl HO2'.out ⟨g0, 0, none⟩ outs.length d (nums ((ofN outs).drop 0)) rfl HDL.out HNA.out HDO.out (by unfold maxLen; omega) (by omega) (by omega) ?_; intro v3 wB hown3 hg3 _))
                rw [show 0 + 1 + outs.length = outs.length + 1 by omega] at hown3
                obtain ⟨A3, c3, rfl⟩ := own_shape hown3
                have HO3 := Lib.hid (own_lower hown3 (base' := w.heap.size) (by omega))
                have HL3 : Hid ((nums ((ofN outs).take 0) ++ [.int .i64 ((g : Nat) : Int)]) ++ nums ((ofN outs).drop 0) = nums (ofN (insG outs g))) := by
                  show _ = _
                  rw [insG, HSP.out]
                  simp [nums, ofN]
                have HBE := Lib.hid ((((below_then (below_then HBN.out HBT.out (by omega)) HB9.out (by omega)).alloc (by omega) (.cells #[.int .i64 ((g : Nat) : Int)] 3)).grown HG2.out (by simp; omega) (fun kk hkk => by have := (HO1.out.lt kk hkk).1; omega)).grown hg3 (by omega) (fun kk hkk => by have := (HO2'.out.lt kk hkk).1; omega))
                have HCB := Lib.hid (whole_grownR (whole_grownR (((H02.out.below HBT.out).below HB9.out).alloc (.cells #[.int .i64 ((g : Nat) : Int)] 3)) HG2.out (fun hkk => by have := (HO1.out.lt _ hkk).1; have := H02.out.lt; have := HBT.out.size; omega)) hg3 (fun hkk => by have := (HO2'.out.lt _ hkk).1; have := H02.out.lt; have := HBT.out.size; omega))
                have HNL := Lib.hid (insG_len outs g)
                clear hown3 hg3
                go_roundw
                case rel => exact ⟨g + 1, insG outs g, A3, c3, by omega, by omega, by go_num, by rw [HNL.out], by rw [HNL.out, ← HL3.out]; exact HO3.out, insG_mem HSM.out (by omega), by rw [insG_len]; omega, HST.out, HCB.out, HBE.out⟩
                case measure => first | (simp [intOf]; done) | (simp [intOf]; omega)
            | succ p =>
              have hp1 : p < outs.length := by omega
              have hgl5 : g0 < w5.heap.size := Nat.lt_of_lt_of_le hgl hb5.size
              have hcp := (hb5.cell (p := ⟨g0, p, none⟩) hgl).trans (HCE.out p (.int .i64 (outs[p] : Nat)) (by simp [nums, ofN, hp1]))
              have hout := HSM.out _ (List.getElem_mem hp1)
              have hgd : outs.getD p 0 = outs[p] := by simp [hp1]
              have HSP0 : Hid (spotG outs g (p + 1) = if lexB (listOf g) (listOf outs[p]) then spotG outs g p else p + 1) := by show _ = _; rw [← hgd]; rfl
              clear hgd
              generalize outs[p] = y at hcp hout HSP0
              have hpw : IntKind.i64.wrap (((p + 1 : Nat) : Int) - 1) = (p : Int) := by rw [IntWalk.i64_in _ (by omega)]; omega
              have hpw2 : IntKind.i64.wrap ((p : Int) + 1 - 1) = (p : Int) := by rw [IntWalk.i64_in _ (by omega)]; omega
              have hpw3 : IntKind.i64.wrap (p : Int) = (p : Int) := IntWalk.i64_in _ (by omega)
              have hgt : (0 : Int) < (p : Int) + 1 := by omega
              have hpli : (p : Int) < (outs.length : Int) := by omega
              have hpl0 : (0 : Int) ≤ (p : Int) := by omega
              have HB5 := Lib.hid hb5
              have HSPP := Lib.hid hsp
              clear hb5 hsp
              go_wp2_with fail
              refine wp_region_held_drew (S := (fun w' => World.cell? w' ⟨g0, p, none⟩ = some (.int .i64 (y : Nat)))) (by kernel_rfl) (show World.cell? (World.drew w5) ⟨g0, p, none⟩ = some (.int .i64 (y : Nat)) from hcp) (fun hHeld => ?_)
              refine wpAnyH_take (i := 0) (v := ?_) rfl (by kernel_rfl) (by kernel_rfl) (by kernel_rfl) (fun _ _ _ h => h) (Or.inl ⟨rfl, ?_⟩) hHeld ?_
              rotate_left
              · intro w' hS; have s0 := hS; go_simp <;> with_reducible rfl
              simp only [Act.put, List.getElem_toArray, List.getElem_cons_succ, List.getElem_cons_zero, List.setIfInBounds_toArray, List.set_cons_succ, List.set_cons_zero]
              refine wpAnyH_take (i := 1) (v := ?_) rfl (by kernel_rfl) (by kernel_rfl) (by kernel_rfl) (fun _ _ _ h => h) (Or.inl ⟨rfl, ?_⟩) hHeld ?_
              rotate_left
              · intro w' hS; have s0 := hS; go_simp <;> with_reducible rfl
              simp only [Act.put, List.getElem_toArray, List.getElem_cons_succ, List.getElem_cons_zero, List.setIfInBounds_toArray, List.set_cons_succ, List.set_cons_zero]
              refine wpAnyH_take (i := 2) (v := ?_) rfl (by kernel_rfl) (by kernel_rfl) (by kernel_rfl) (fun _ _ _ h => h) (Or.inl ⟨rfl, ?_⟩) hHeld ?_
              rotate_left
              · intro w' hS; have s0 := hS; go_simp <;> with_reducible rfl
              simp only [Act.put, List.getElem_toArray, List.getElem_cons_succ, List.getElem_cons_zero, List.setIfInBounds_toArray, List.set_cons_succ, List.set_cons_zero]
              refine wpAnyH_take (i := 3) (v := ?_) rfl (by kernel_rfl) (by kernel_rfl) (by kernel_rfl) (fun _ _ _ h => h) (Or.inl ⟨rfl, ?_⟩) hHeld ?_
              rotate_left
              · intro w' hS; have s0 := hS; go_simp <;> with_reducible rfl
              simp only [Act.put, List.getElem_toArray, List.getElem_cons_succ, List.getElem_cons_zero, List.setIfInBounds_toArray, List.set_cons_succ, List.set_cons_zero]
              refine wpAnyH_take (i := 5) (v := ?_) rfl (by kernel_rfl) (by kernel_rfl) (by kernel_rfl) (fun _ _ _ h => h) (Or.inl ⟨rfl, ?_⟩) hHeld ?_
              rotate_left
              · intro w' hS; have s0 := hS; go_simp <;> with_reducible rfl
              simp only [Act.put, List.getElem_toArray, List.getElem_cons_succ, List.getElem_cons_zero, List.setIfInBounds_toArray, List.set_cons_succ, List.set_cons_zero]
              refine wpAnyH_take (i := 6) (v := ?_) rfl (by kernel_rfl) (by kernel_rfl) (by kernel_rfl) (fun _ _ _ h => h) (Or.inl ⟨rfl, ?_⟩) hHeld ?_
              rotate_left
              · intro w' hS; have s0 := hS; go_simp <;> with_reducible rfl
              simp only [Act.put, List.getElem_toArray, List.getElem_cons_succ, List.getElem_cons_zero, List.setIfInBounds_toArray, List.set_cons_succ, List.set_cons_zero]
              refine wpAnyH_take (i := 7) (v := ?_) rfl (by kernel_rfl) (by kernel_rfl) (by kernel_rfl) (fun _ _ _ h => h) (Or.inl ⟨rfl, ?_⟩) hHeld ?_
              rotate_left
              · intro w' hS; have s0 := hS; go_simp <;> with_reducible rfl
              simp only [Act.put, List.getElem_toArray, List.getElem_cons_succ, List.getElem_cons_zero, List.setIfInBounds_toArray, List.set_cons_succ, List.set_cons_zero]
              refine wpAnyH_take (i := 8) (v := ?_) rfl (by kernel_rfl) (by kernel_rfl) (by kernel_rfl) (fun _ _ _ h => h) (Or.inl ⟨rfl, ?_⟩) hHeld ?_
              rotate_left
              · intro w' hS; have s0 := hS; go_simp <;> with_reducible rfl
              simp only [Act.put, List.getElem_toArray, List.getElem_cons_succ, List.getElem_cons_zero, List.setIfInBounds_toArray, List.set_cons_succ, List.set_cons_zero]
              refine wpAnyH_take (i := 9) (v := ?_) rfl (by kernel_rfl) (by kernel_rfl) (by kernel_rfl) (fun _ _ _ h => h) (Or.inl ⟨rfl, ?_⟩) hHeld ?_
              rotate_left
              · intro w' hS; have s0 := hS; go_simp <;> with_reducible rfl
              simp only [Act.put, List.getElem_toArray, List.getElem_cons_succ, List.getElem_cons_zero, List.setIfInBounds_toArray, List.set_cons_succ, List.set_cons_zero]
              refine wpAnyH_ready (rs := [4]) (by kernel_rfl) (by simp) (AllReadyH.cons rfl (fun K hK => ?_) AllReadyH.nil)
              go_simp
              refine (cuList_any g _ (by omega)).mono ?_
              rintro e w6 ⟨E6, r6, rfl, hown6, hb6⟩
              have hk6 := (hb6.cell (p := ⟨g0, p, none⟩) hgl5).trans hcp
              have HO6 := Lib.hid (holds_of_own hown6)
              have HB6 := Lib.hid (below_then HB5.out.drew hb6 HB5.out.size)
              clear hown6
              refine hK.out _ _ hk6 (fun hHeld => ?_)
              clear hK K
              try simp only [Act.put, List.getElem_toArray, List.getElem_cons_succ, List.getElem_cons_zero, List.setIfInBounds_toArray, List.set_cons_succ, List.set_cons_zero]
              refine wpAnyH_ready (rs := [10]) (by kernel_rfl) (by simp) (AllReadyH.cons rfl (fun K hK => ?_) AllReadyH.nil)
              go_simp
              refine (cuList_any y _ hout).mono ?_
              rintro e w7 ⟨E7, r7, rfl, hown7, hb7⟩
              have hk7 := (hb7.cell (p := ⟨g0, p, none⟩) (Nat.lt_of_lt_of_le hgl5 hb6.size)).trans hk6
              have HO7 := Lib.hid (holds_of_own hown7)
              have HO67 := Lib.hid (HO6.out.below hb7)
              have HB7 := Lib.hid (below_then HB6.out hb7 HB6.out.size)
              clear hown7
              refine hK.out _ _ hk7 (fun hHeld => ?_)
              clear hK K
              try simp only [Act.put, List.getElem_toArray, List.getElem_cons_succ, List.getElem_cons_zero, List.setIfInBounds_toArray, List.set_cons_succ, List.set_cons_zero]
              refine wpAnyH_ready (rs := [11]) (by kernel_rfl) (by simp) (AllReadyH.cons rfl (fun K hK => ?_) AllReadyH.nil)
              go_simp
              refine (cuBefore_any _ _ _ _ _ _ (listOf g) (listOf y) _ (by with_reducible exact HO67.out) (by with_reducible exact HO7.out) rfl rfl (by have := listOf_le g; omega) (by have := listOf_le y; omega)).mono ?_
              rintro e wT ⟨rfl, hb8⟩
              have hk8 := (hb8.cell (p := ⟨g0, p, none⟩) (Nat.lt_of_lt_of_le hgl5 (Nat.le_trans hb6.size hb7.size))).trans hk7
              have HBT := Lib.hid (below_then HB7.out hb8 HB7.out.size)
              refine hK.out _ _ hk8 (fun hHeld => ?_)
              clear hK K
              try simp only [Act.put, List.getElem_toArray, List.getElem_cons_succ, List.getElem_cons_zero, List.setIfInBounds_toArray, List.set_cons_succ, List.set_cons_zero]
              refine wpAnyH_take (i := 12) (v := ?_) rfl (by kernel_rfl) (by kernel_rfl) (by kernel_rfl) (fun _ _ _ h => h) (Or.inl ⟨rfl, ?_⟩) hHeld ?_
              rotate_left
              · intro w' hS; have s0 := hS; go_simp <;> with_reducible rfl
              simp only [Act.put, List.getElem_toArray, List.getElem_cons_succ, List.getElem_cons_zero, List.setIfInBounds_toArray, List.set_cons_succ, List.set_cons_zero]
              refine wpAnyH_done (by kernel_rfl) ?_ _
              clear hHeld
              clear hb6 hb7 hb8 hk6 hk7 hk8 hcp
              cases hlx : lexB (listOf g) (listOf y)
              · have hsp : spotG outs g outs.length = p + 1 := by rw [HSPP.out, HSP0.out, hlx]; rfl
                clear hpw hpw2 hpw3 hgt hpli hpl0 hlx
                by_cases hdp : d = p + 1
                · have HLP : Hid (outs.length = p + 1) := by show _ = _; omega
                  subst hdp
                  have HSP := Lib.hid hsp
                  have hpd : (p + 1) ≤ (p + 1) := by omega
                  have hp0' : (0 : Int) ≤ (((p + 1) : Nat) : Int) := by omega
                  have hpdi : (((p + 1) : Nat) : Int) ≤ (((p + 1) : Nat) : Int) := by omega
                  have hpji : (((p + 1) : Nat) : Int) ≤ ((outs.length : Nat) : Int) := by omega
                  have HTK : Hid (((ofN outs).take (p + 1)).length = (p + 1)) := by show _ = _; rw [List.length_take, ofN_len]; omega
                  have HDL : Hid ((nums ((ofN outs).drop (p + 1))).length = 0 * 1) := by first | rfl | (show _ = _; rw [nums_len, List.length_drop, ofN_len]; omega)
                  have HDO := Lib.hid (ints_one ((ofN outs).drop (p + 1)))
                  have hsT := HBT.out.size
                  have HCT : Hid (∀ i u, (nums (ofN outs))[i]? = some u → wT.cell? ⟨g0, i, none⟩ = some u) := fun i u hu => (HBT.out.cell (p := ⟨g0, i, none⟩) hgl).trans (HCE.out i u hu)
                  have hAl : Holds wT (some ⟨g0, 0, none⟩) (nums ((ofN outs).take (p + 1))) := by
                    refine .inr ⟨g0, 0, rfl, Nat.lt_of_lt_of_le hgl hsT, fun i u hu => ?_⟩
                    rw [Nat.zero_add]
                    refine HCT.out i u ?_
                    have hi : i < (p + 1) := by have := (List.getElem?_eq_some_iff.1 hu).1; rw [nums_len, HTK.out] at this; exact this
                    first | (exfalso; omega) | (rw [← hu]; simp only [nums, List.map_take, List.getElem?_take, if_pos hi])
                  clear hsp
                  go_wp2_with fail
                  refine (l1Own_any (some ⟨g0, 0, none⟩) _ _ ((ofN outs).take (p + 1)) _ hAl HTK.out (by omega) (fun h => by first | rfl | cases h)).mono ?_
                  rintro e w9 ⟨E1, c9, rfl, hown1, hb9⟩
                  rw [HTK.out] at hown1 ⊢
                  have hs9 := hb9.size
                  have HO1 := Lib.hid (hown1.alloc (.cells #[.int .i64 ((g : Nat) : Int)] 3))
                  have HNEW := Lib.hid (cells_fresh w9 3 #[.int .i64 ((g : Nat) : Int)])
                  have HONE : Hid (∀ u ∈ [Value.int .i64 ((g : Nat) : Int)], u.oneCell' = true) := fun u hu => by simp at hu; subst hu; rfl
                  have HB9 := Lib.hid hb9
                  clear hown1 hb9 hAl
                  go_wp2_with (first | (at_builtin; refine wpList_append_own _ rfl (.tmp 40) (.tmp 42) 40 rfl wT.heap.size 3 i0 (.int .i64 0) 1 8 Try.underlying40 HI.out HZ0.out HZ1.out HZ2.out rfl (by decide) _ (p + 1) (nums ((ofN outs).take (p + 1))) rfl HO1.out ⟨w9.heap.size, 0, none⟩ 1 1 [.int .i64 ((g : Nat) : Int)] rfl rfl HNEW.out HONE.out (by unfold maxLen; omega) (by omega) (by simp; omega) ?_; intro v2 wA hown2 hg2 _; obtain ⟨g2, c2, hv2⟩ := own_slice hown2; subst hv2; have hsA : w9.heap.size + 1 ≤ wA.heap.size := (by have := hg2.size; simpa using this); have HO2' := Lib.hid hown2; have HG2 := Lib.hid hg2; have HNA : Hid (∀ i u, (nums ((ofN outs).drop (p + 1)))[i]? = some u → wA.cell? ((⟨g0, 0, none⟩ : Addr).add i) = some u) := (fun i u hu => by rw [show (⟨g0, 0, none⟩ : Addr).add i = ⟨g0, 0 + i, none⟩ from by unfold Addr.add; split <;> simp_all]; exfalso; have h1 := (List.getElem?_eq_some_iff.1 hu).1; rw [HDL.out] at h1; omega); clear hown2 hg2) | (at_builtin; refine wpList_append_own _ rfl (.tmp 44) (.tmp 47) 40 rfl wT.heap.size 3 i0 (.int .i64 0) 1 8 Try.underlying40 HI.out HZ0.out HZ1.out HZ2.out rfl (by decide) (.slice (some ⟨g2, 0, none⟩) ((p + 1) + 1) c2) _ _ rfl HO2'.out ⟨g0, 0, none⟩ 0 0 (nums ((ofN outs).drop (p + 1))) rfl HDL.out HNA.out HDO.out (by unfold maxLen; omega) (by omega) (by omega) ?_; intro v3 wB hown3 hg3 _))
                  rw [show (p + 1) + 1 + 0 = outs.length + 1 by omega] at hown3
                  obtain ⟨A3, c3, rfl⟩ := own_shape hown3
                  have HO3 := Lib.hid (own_lower hown3 (base' := w.heap.size) (by omega))
                  have HL3 : Hid ((nums ((ofN outs).take (p + 1)) ++ [.int .i64 ((g : Nat) : Int)]) ++ nums ((ofN outs).drop (p + 1)) = nums (ofN (insG outs g))) := by
                    show _ = _
                    rw [insG, HSP.out]
                    simp [nums, ofN]
                  have HBE := Lib.hid ((((below_then (below_then HBN.out HBT.out (by omega)) HB9.out (by omega)).alloc (by omega) (.cells #[.int .i64 ((g : Nat) : Int)] 3)).grown HG2.out (by simp; omega) (fun kk hkk => by have := (HO1.out.lt kk hkk).1; omega)).grown hg3 (by omega) (fun kk hkk => by have := (HO2'.out.lt kk hkk).1; omega))
                  have HCB := Lib.hid (whole_grownR (whole_grownR (((H02.out.below HBT.out).below HB9.out).alloc (.cells #[.int .i64 ((g : Nat) : Int)] 3)) HG2.out (fun hkk => by have := (HO1.out.lt _ hkk).1; have := H02.out.lt; have := HBT.out.size; omega)) hg3 (fun hkk => by have := (HO2'.out.lt _ hkk).1; have := H02.out.lt; have := HBT.out.size; omega))
                  have HNL := Lib.hid (insG_len outs g)
                  clear hown3 hg3
                  go_roundw
                  case rel => exact ⟨g + 1, insG outs g, A3, c3, by omega, by omega, by go_num, by rw [HNL.out], by rw [HNL.out, ← HL3.out]; exact HO3.out, insG_mem HSM.out (by omega), by rw [insG_len]; omega, HST.out, HCB.out, HBE.out⟩
                  case measure => first | (simp [intOf]; done) | (simp [intOf]; omega)
                · skip
                  have HSP := Lib.hid hsp
                  have hpd : (p + 1) ≤ d := by omega
                  have hp0' : (0 : Int) ≤ (((p + 1) : Nat) : Int) := by omega
                  have hpdi : (((p + 1) : Nat) : Int) ≤ ((d : Nat) : Int) := by omega
                  have hpji : (((p + 1) : Nat) : Int) ≤ ((outs.length : Nat) : Int) := by omega
                  have HTK : Hid (((ofN outs).take (p + 1)).length = (p + 1)) := by show _ = _; rw [List.length_take, ofN_len]; omega
                  have HDL : Hid ((nums ((ofN outs).drop (p + 1))).length = (outs.length - (p + 1)) * 1) := by first | rfl | (show _ = _; rw [nums_len, List.length_drop, ofN_len]; omega)
                  have HDO := Lib.hid (ints_one ((ofN outs).drop (p + 1)))
                  have hsT := HBT.out.size
                  have HCT : Hid (∀ i u, (nums (ofN outs))[i]? = some u → wT.cell? ⟨g0, i, none⟩ = some u) := fun i u hu => (HBT.out.cell (p := ⟨g0, i, none⟩) hgl).trans (HCE.out i u hu)
                  have hAl : Holds wT (some ⟨g0, 0, none⟩) (nums ((ofN outs).take (p + 1))) := by
                    refine .inr ⟨g0, 0, rfl, Nat.lt_of_lt_of_le hgl hsT, fun i u hu => ?_⟩
                    rw [Nat.zero_add]
                    refine HCT.out i u ?_
                    have hi : i < (p + 1) := by have := (List.getElem?_eq_some_iff.1 hu).1; rw [nums_len, HTK.out] at this; exact this
                    first | (exfalso; omega) | (rw [← hu]; simp only [nums, List.map_take, List.getElem?_take, if_pos hi])
                  clear hsp
                  go_wp2_with fail
                  refine (l1Own_any (some ⟨g0, 0, none⟩) _ _ ((ofN outs).take (p + 1)) _ hAl HTK.out (by omega) (fun h => by first | rfl | cases h)).mono ?_
                  rintro e w9 ⟨E1, c9, rfl, hown1, hb9⟩
                  rw [HTK.out] at hown1 ⊢
                  have hs9 := hb9.size
                  have HO1 := Lib.hid (hown1.alloc (.cells #[.int .i64 ((g : Nat) : Int)] 3))
                  have HNEW := Lib.hid (cells_fresh w9 3 #[.int .i64 ((g : Nat) : Int)])
                  have HONE : Hid (∀ u ∈ [Value.int .i64 ((g : Nat) : Int)], u.oneCell' = true) := fun u hu => by simp at hu; subst hu; rfl
                  have HB9 := Lib.hid hb9
                  clear hown1 hb9 hAl
                  go_wp2_with (first | (at_builtin; refine wpList_append_own _ rfl (.tmp 40) (.tmp 42) 40 rfl wT.heap.size 3 i0 (.int .i64 0) 1 8 Try.underlying40 HI.out HZ0.out HZ1.out HZ2.out rfl (by decide) _ (p + 1) (nums ((ofN outs).take (p + 1))) rfl HO1.out ⟨w9.heap.size, 0, none⟩ 1 1 [.int .i64 ((g : Nat) : Int)] rfl rfl HNEW.out HONE.out (by unfold maxLen; omega) (by omega) (by simp; omega) ?_; intro v2 wA hown2 hg2 _; obtain ⟨g2, c2, hv2⟩ := own_slice hown2; subst hv2; have hsA : w9.heap.size + 1 ≤ wA.heap.size := (by have := hg2.size; simpa using this); have HO2' := Lib.hid hown2; have HG2 := Lib.hid hg2; have HNA : Hid (∀ i u, (nums ((ofN outs).drop (p + 1)))[i]? = some u → wA.cell? ((⟨g0, (p + 1), none⟩ : Addr).add i) = some u) := (fun i u hu => by rw [show (⟨g0, (p + 1), none⟩ : Addr).add i = ⟨g0, (p + 1) + i, none⟩ from by unfold Addr.add; split <;> simp_all]; exact (cell_grown hg2 (by simp; omega) (fun hh => by have := (HO1.out.lt g0 hh).1; omega)).trans ((World.cell?_alloc_lt w9 _ ⟨g0, (p + 1) + i, none⟩ (by show g0 < _; omega)).trans ((HB9.out.cell (p := ⟨g0, (p + 1) + i, none⟩) (by show g0 < _; omega)).trans (HCT.out _ u (by rw [← hu]; simp [nums]))))); clear hown2 hg2) | (at_builtin; refine wpList_append_own _ rfl (.tmp 44) (.tmp 47) 40 rfl wT.heap.size 3 i0 (.int .i64 0) 1 8 Try.underlying40 HI.out HZ0.out HZ1.out HZ2.out rfl (by decide) (.slice (some ⟨g2, 0, none⟩) ((p + 1) + 1) c2) _ _ rfl HO2'.out ⟨g0, (p + 1), none⟩ (outs.length - (p + 1)) (d - (p + 1)) (nums ((ofN outs).drop (p + 1))) rfl HDL.out HNA.out HDO.out (by unfold maxLen; omega) (by omega) (by omega) ?_; intro v3 wB hown3 hg3 _))
                  rw [show (p + 1) + 1 + (outs.length - (p + 1)) = outs.length + 1 by omega] at hown3
                  obtain ⟨A3, c3, rfl⟩ := own_shape hown3
                  have HO3 := Lib.hid (own_lower hown3 (base' := w.heap.size) (by omega))
                  have HL3 : Hid ((nums ((ofN outs).take (p + 1)) ++ [.int .i64 ((g : Nat) : Int)]) ++ nums ((ofN outs).drop (p + 1)) = nums (ofN (insG outs g))) := by
                    show _ = _
                    rw [insG, HSP.out]
                    simp [nums, ofN]
                  have HBE := Lib.hid ((((below_then (below_then HBN.out HBT.out (by omega)) HB9.out (by omega)).alloc (by omega) (.cells #[.int .i64 ((g : Nat) : Int)] 3)).grown HG2.out (by simp; omega) (fun kk hkk => by have := (HO1.out.lt kk hkk).1; omega)).grown hg3 (by omega) (fun kk hkk => by have := (HO2'.out.lt kk hkk).1; omega))
                  have HCB := Lib.hid (whole_grownR (whole_grownR (((H02.out.below HBT.out).below HB9.out).alloc (.cells #[.int .i64 ((g : Nat) : Int)] 3)) HG2.out (fun hkk => by have := (HO1.out.lt _ hkk).1; have := H02.out.lt; have := HBT.out.size; omega)) hg3 (fun hkk => by have := (HO2'.out.lt _ hkk).1; have := H02.out.lt; have := HBT.out.size; omega))
                  have HNL := Lib.hid (insG_len outs g)
                  clear hown3 hg3
                  go_roundw
                  case rel => exact ⟨g + 1, insG outs g, A3, c3, by omega, by omega, by go_num, by rw [HNL.out], by rw [HNL.out, ← HL3.out]; exact HO3.out, insG_mem HSM.out (by omega), by rw [insG_len]; omega, HST.out, HCB.out, HBE.out⟩
                  case measure => first | (simp [intOf]; done) | (simp [intOf]; omega)
              · have hsp : spotG outs g outs.length = spotG outs g p := by rw [HSPP.out, HSP0.out, hlx]; rfl
                have HS2 := Lib.hid hsp
                clear hlx hsp
                go_wp2
                go_roundw
                case rel => exact ⟨p, by omega, by go_num, HS2.out, HBT.out⟩
                case measure => first | (simp [intOf]; done) | (simp [intOf]; omega)
    · obtain rfl : g = N := by omega
      have hd : decide ((g : Int) < (g : Int)) = false := by simp
      have HRR : Hid (outs = R) := by have h := HRM.out; rw [Nat.sub_self] at h; exact h
      have HO2 := Lib.hid (own_lower (own_below HOWN.out hb1) (Nat.le_refl _))
      have HBN := Lib.hid (below_then HB.out hb1 hbs)
      clear hb1 c0 c1
      go_wp2
      go_ret
      have hR := HRR.out
      subst hR
      exact ⟨E, d, by rw [ofN_len]; rfl, by rw [ofN_len]; exact HO2.out, HBN.out⟩
end Go.Proofs.Ytkdjdnknhbmliaa

namespace Go.Proofs.Ytkdjdnknhbmliaa
open Go.RowKit

theorem size_st : (Try.prog.info? 33).map (·.size) = some 2 := by kernel_rfl
theorem Fresh.only {w w' : World} {lo hi b : Nat} {ty : TypeId} {A : Option Addr} {xs : List Value} (hf : Fresh w lo hi ty A xs) (o : Only b w w') (hb : b < lo) : Fresh w' lo hi ty A xs := by
  rcases hf with rfl | ⟨g, cs, hA, h1, h2, hw, h3, h4⟩
  · exact .inl rfl
  · exact .inr ⟨g, cs, hA, h1, h2, o.whole hw (by omega), h3, h4⟩
/-- Is the list a row in a calm state? -/
noncomputable def boatOk (a b : Int) (bs : List Bool) (t : Bool) (l : List Int) : Bool := calmIn a b bs t && tripM a.toNat b (codeOf bs t) l
noncomputable def boatBits (a b : Int) (bs : List Bool) (t : Bool) (l : List Int) : List Bool := if boatOk a b bs t l then flipped bs l else []
noncomputable def boatTorch (a b : Int) (bs : List Bool) (t : Bool) (l : List Int) : Bool := boatOk a b bs t l && !t
theorem boat_no {a b : Int} {bs : List Bool} {t : Bool} {l : List Int} (h : boatOk a b bs t l = false) : boatBits a b bs t l = [] ∧ boatTorch a b bs t l = false ∧ boatOk a b bs t l = false := by simp [boatBits, boatTorch, h]
theorem boat_yes {a b : Int} {bs : List Bool} {t : Bool} {l : List Int} (h : boatOk a b bs t l = true) : boatBits a b bs t l = flipped bs l ∧ boatTorch a b bs t l = !t ∧ boatOk a b bs t l = true := by simp [boatBits, boatTorch, h]
theorem bits_back {n : Nat} {cs : List Bool} {u : Bool} (h : cs.length = n) : bitsOf (codeOf cs u / 2) n = cs := by
  refine List.ext_getElem (by rw [bitsOf_len, h]) fun i h1 h2 => ?_
  have hb := bit_maskUp (fun i => cs.getD i false) cs.length i
  rw [← code_half cs u] at hb
  simp only [bitsOf, List.getElem_map, List.getElem_range]
  rw [hb]
  simp [h2]
theorem torch_back (cs : List Bool) (u : Bool) : bitAt (codeOf cs u) 0 = u := by rw [bit_code]; rfl

set_option maxHeartbeats 12800000 in
set_option maxRecDepth 100000 in
set_option linter.unusedSimpArgs false in
theorem specRowBoat_any (a b : Int) (B D : Option Addr) (m d q z : Nat) (bs : List Bool) (t : Bool) (l : List Int) (w : World) (hB : Holds w B (bits bs)) (hD : Holds w D (nums l)) (hy : bs.length = m) (hz : l.length = q) (hm : m ≤ 9223372036854775807) (hq : q ≤ 9223372036854775807) :
    Calls Try.prog 24 #[.agg #[.int .i64 a, .int .i64 b], .agg #[.slice B m d, .bool t], .slice D q z] w (StatePost (boatBits a b bs t l) (boatTorch a b bs t l) (boatOk a b bs t l) w) := by
  have HY := Lib.hid hy
  have HZ := Lib.hid hz
  have hB2 := ((hB.alloc (.cells #[.int .i64 a, .int .i64 b] 31)).alloc (.cells #[.slice B m d, .bool t] 33)).alloc (.cells #[.slice none 0 0, .bool false] 33)
  have hD2 := ((hD.alloc (.cells #[.int .i64 a, .int .i64 b] 31)).alloc (.cells #[.slice B m d, .bool t] 33)).alloc (.cells #[.slice none 0 0, .bool false] 33)
  have hc := ((Whole.fresh w 31 #[.int .i64 a, .int .i64 b]).alloc (.cells #[.slice B m d, .bool t] 33)).alloc (.cells #[.slice none 0 0, .bool false] 33)
  have hs := (Whole.fresh (w.alloc (.cells #[.int .i64 a, .int .i64 b] 31)) 33 #[.slice B m d, .bool t]).alloc (.cells #[.slice none 0 0, .bool false] 33)
  have hr := Whole.fresh ((w.alloc (.cells #[.int .i64 a, .int .i64 b] 31)).alloc (.cells #[.slice B m d, .bool t] 33)) 33 #[.slice none 0 0, .bool false]
  have ht := below3 w (.cells #[.int .i64 a, .int .i64 b] 31) (.cells #[.slice B m d, .bool t] 33) (.cells #[.slice none 0 0, .bool false] 33)
  rw [World.size_alloc] at hs
  rw [World.size_alloc, World.size_alloc] at hr
  cases h1 : isPlace a b bs t
  · obtain ⟨f1, f2, f3⟩ := boat_no (l := l) (show boatOk a b bs t l = false by simp [boatOk, calmIn_no h1])
    rw [f1, f2, f3]
    have H1 := Lib.hid h1
    clear h1 hy hz f1 f2 f3 hB hD
    go_enter Try.func24, Try.ntmps24
    go_wp2_with fail
    refine wp_region_held_drew (S := (Boxes2 w.heap.size (w.heap.size + 1) (.int .i64 a) (.int .i64 b) (.slice B m d) (.bool t))) (by kernel_rfl) (boxes2_of hc.drew hs.drew) (fun hHeld => ?_)
    replace ht := ht.drew
    replace hc := hc.drew
    replace hs := hs.drew
    replace hr := hr.drew
    replace hB2 := hB2.drew
    replace hD2 := hD2.drew
    refine wpAnyH_take (i := 0) (v := ?_) rfl (by kernel_rfl) (by kernel_rfl) (by kernel_rfl) (fun _ _ _ h => h) (Or.inl ⟨rfl, ?_⟩) hHeld ?_
    rotate_left
    · intro w' hS; obtain ⟨s0, s1, s2, s3⟩ := hS; go_simp <;> with_reducible rfl
    simp only [Act.put, List.getElem_toArray, List.getElem_cons_succ, List.getElem_cons_zero, List.setIfInBounds_toArray, List.set_cons_succ, List.set_cons_zero]
    refine wpAnyH_take (i := 1) (v := ?_) rfl (by kernel_rfl) (by kernel_rfl) (by kernel_rfl) (fun _ _ _ h => h) (Or.inl ⟨rfl, ?_⟩) hHeld ?_
    rotate_left
    · intro w' hS; obtain ⟨s0, s1, s2, s3⟩ := hS; go_simp <;> with_reducible rfl
    simp only [Act.put, List.getElem_toArray, List.getElem_cons_succ, List.getElem_cons_zero, List.setIfInBounds_toArray, List.set_cons_succ, List.set_cons_zero]
    refine wpAnyH_ready (rs := [2]) (by kernel_rfl) (by simp) (AllReadyH.cons rfl (fun K hK => ?_) AllReadyH.nil)
    go_simp
    refine (cuIs_any a b B m d bs t _ hB2 HY.out hm).mono ?_
    rintro e w1 ⟨rfl, hb⟩
    rw [H1.out]
    replace ht := below_then ht hb ht.size
    replace hc := hc.below hb
    replace hs := hs.below hb
    replace hr := hr.below hb
    replace hB2 := hB2.below hb
    replace hD2 := hD2.below hb
    clear hb
    refine hK.out _ _ (boxes2_of hc hs) (fun hHeld => ?_)
    clear hK K
    try simp only [Act.put, List.getElem_toArray, List.getElem_cons_succ, List.getElem_cons_zero, List.setIfInBounds_toArray, List.set_cons_succ, List.set_cons_zero]
    refine wpAnyH_take (i := 3) (v := ?_) rfl (by kernel_rfl) (by kernel_rfl) (by kernel_rfl) (fun _ _ _ h => h) (Or.inl ⟨rfl, ?_⟩) hHeld ?_
    rotate_left
    · intro w' hS; obtain ⟨s0, s1, s2, s3⟩ := hS; go_simp <;> with_reducible rfl
    simp only [Act.put, List.getElem_toArray, List.getElem_cons_succ, List.getElem_cons_zero, List.setIfInBounds_toArray, List.set_cons_succ, List.set_cons_zero]
    refine wpAnyH_take (i := 4) (v := ?_) rfl (by kernel_rfl) (by kernel_rfl) (by kernel_rfl) (fun _ _ _ h => h) (Or.inl ⟨rfl, ?_⟩) hHeld ?_
    rotate_left
    · intro w' hS; obtain ⟨s0, s1, s2, s3⟩ := hS; go_simp <;> with_reducible rfl
    simp only [Act.put, List.getElem_toArray, List.getElem_cons_succ, List.getElem_cons_zero, List.setIfInBounds_toArray, List.set_cons_succ, List.set_cons_zero]
    refine wpAnyH_take (i := 5) (v := undef) rfl (by kernel_rfl) (by kernel_rfl) (by kernel_rfl) (fun _ _ _ h => h) (Or.inr ⟨by simp [Region.wanted, yielded], rfl⟩) hHeld ?_
    simp only [Act.put, List.getElem_toArray, List.getElem_cons_succ, List.getElem_cons_zero, List.setIfInBounds_toArray, List.set_cons_succ, List.set_cons_zero]
    refine wpAnyH_take (i := 6) (v := undef) rfl (by kernel_rfl) (by kernel_rfl) (by kernel_rfl) (fun _ _ _ h => h) (Or.inr ⟨by simp [Region.wanted, yielded], rfl⟩) hHeld ?_
    simp only [Act.put, List.getElem_toArray, List.getElem_cons_succ, List.getElem_cons_zero, List.setIfInBounds_toArray, List.set_cons_succ, List.set_cons_zero]
    refine wpAnyH_take (i := 7) (v := undef) rfl (by kernel_rfl) (by kernel_rfl) (by kernel_rfl) (fun _ _ _ h => h) (Or.inr ⟨by simp [Region.wanted, yielded], rfl⟩) hHeld ?_
    simp only [Act.put, List.getElem_toArray, List.getElem_cons_succ, List.getElem_cons_zero, List.setIfInBounds_toArray, List.set_cons_succ, List.set_cons_zero]
    refine wpAnyH_take (i := 8) (v := undef) rfl (by kernel_rfl) (by kernel_rfl) (by kernel_rfl) (fun _ _ _ h => h) (Or.inr ⟨by simp [Region.wanted, yielded], rfl⟩) hHeld ?_
    simp only [Act.put, List.getElem_toArray, List.getElem_cons_succ, List.getElem_cons_zero, List.setIfInBounds_toArray, List.set_cons_succ, List.set_cons_zero]
    refine wpAnyH_take (i := 9) (v := undef) rfl (by kernel_rfl) (by kernel_rfl) (by kernel_rfl) (fun _ _ _ h => h) (Or.inr ⟨by simp [Region.wanted, yielded], rfl⟩) hHeld ?_
    simp only [Act.put, List.getElem_toArray, List.getElem_cons_succ, List.getElem_cons_zero, List.setIfInBounds_toArray, List.set_cons_succ, List.set_cons_zero]
    refine wpAnyH_take (i := 10) (v := ?_) rfl (by kernel_rfl) (by kernel_rfl) (by kernel_rfl) (fun _ _ _ h => h) (Or.inl ⟨rfl, ?_⟩) hHeld ?_
    rotate_left
    · intro w' hS; obtain ⟨s0, s1, s2, s3⟩ := hS; go_simp <;> with_reducible rfl
    simp only [Act.put, List.getElem_toArray, List.getElem_cons_succ, List.getElem_cons_zero, List.setIfInBounds_toArray, List.set_cons_succ, List.set_cons_zero]
    refine wpAnyH_take (i := 11) (v := ?_) rfl (by kernel_rfl) (by kernel_rfl) (by kernel_rfl) (fun _ _ _ h => h) (Or.inl ⟨rfl, ?_⟩) hHeld ?_
    rotate_left
    · intro w' hS; obtain ⟨s0, s1, s2, s3⟩ := hS; go_simp <;> with_reducible rfl
    simp only [Act.put, List.getElem_toArray, List.getElem_cons_succ, List.getElem_cons_zero, List.setIfInBounds_toArray, List.set_cons_succ, List.set_cons_zero]
    refine wpAnyH_take (i := 12) (v := undef) rfl (by kernel_rfl) (by kernel_rfl) (by kernel_rfl) (fun _ _ _ h => h) (Or.inr ⟨by simp [Region.wanted, yielded], rfl⟩) hHeld ?_
    simp only [Act.put, List.getElem_toArray, List.getElem_cons_succ, List.getElem_cons_zero, List.setIfInBounds_toArray, List.set_cons_succ, List.set_cons_zero]
    refine wpAnyH_take (i := 13) (v := undef) rfl (by kernel_rfl) (by kernel_rfl) (by kernel_rfl) (fun _ _ _ h => h) (Or.inr ⟨by simp [Region.wanted, yielded], rfl⟩) hHeld ?_
    simp only [Act.put, List.getElem_toArray, List.getElem_cons_succ, List.getElem_cons_zero, List.setIfInBounds_toArray, List.set_cons_succ, List.set_cons_zero]
    refine wpAnyH_take (i := 14) (v := undef) rfl (by kernel_rfl) (by kernel_rfl) (by kernel_rfl) (fun _ _ _ h => h) (Or.inr ⟨by simp [Region.wanted, yielded], rfl⟩) hHeld ?_
    simp only [Act.put, List.getElem_toArray, List.getElem_cons_succ, List.getElem_cons_zero, List.setIfInBounds_toArray, List.set_cons_succ, List.set_cons_zero]
    refine wpAnyH_take (i := 15) (v := undef) rfl (by kernel_rfl) (by kernel_rfl) (by kernel_rfl) (fun _ _ _ h => h) (Or.inr ⟨by simp [Region.wanted, yielded], rfl⟩) hHeld ?_
    simp only [Act.put, List.getElem_toArray, List.getElem_cons_succ, List.getElem_cons_zero, List.setIfInBounds_toArray, List.set_cons_succ, List.set_cons_zero]
    refine wpAnyH_take (i := 16) (v := undef) rfl (by kernel_rfl) (by kernel_rfl) (by kernel_rfl) (fun _ _ _ h => h) (Or.inr ⟨by simp [Region.wanted, yielded], rfl⟩) hHeld ?_
    simp only [Act.put, List.getElem_toArray, List.getElem_cons_succ, List.getElem_cons_zero, List.setIfInBounds_toArray, List.set_cons_succ, List.set_cons_zero]
    refine wpAnyH_take (i := 17) (v := undef) rfl (by kernel_rfl) (by kernel_rfl) (by kernel_rfl) (fun _ _ _ h => h) (Or.inr ⟨by simp [Region.wanted, yielded], rfl⟩) hHeld ?_
    simp only [Act.put, List.getElem_toArray, List.getElem_cons_succ, List.getElem_cons_zero, List.setIfInBounds_toArray, List.set_cons_succ, List.set_cons_zero]
    refine wpAnyH_take (i := 18) (v := ?_) rfl (by kernel_rfl) (by kernel_rfl) (by kernel_rfl) (fun _ _ _ h => h) (Or.inl ⟨rfl, ?_⟩) hHeld ?_
    rotate_left
    · intro w' hS; obtain ⟨s0, s1, s2, s3⟩ := hS; go_simp <;> with_reducible rfl
    simp only [Act.put, List.getElem_toArray, List.getElem_cons_succ, List.getElem_cons_zero, List.setIfInBounds_toArray, List.set_cons_succ, List.set_cons_zero]
    refine wpAnyH_done (by kernel_rfl) ?_ _
    clear hHeld
    obtain ⟨r0, r1, g0, g1⟩ := hr.two
    clear hc hs hr hB2 hD2
    go_wp2
    refine bodyPost_ret (v := .tuple #[.agg #[.slice none 0 0, .bool false], .bool false]) (by simp [results, Try.results24, go_sem, r0, r1]) rfl ⟨none, 0, rfl, .inl rfl, below_set (below_set ht (by omega)) (by omega)⟩
  obtain ⟨k, rfl, hk1, hk, -, -, -, -, hl⟩ := place_co h1
  have HQ := Lib.hid (quiet_code (c := k) (t := t) hl)
  have HLT := Lib.hid (show codeOf bs t / 2 < 2 ^ (2 * k) by rw [← hl]; exact code_lt bs t)
  have H1 := Lib.hid h1
  have hm8 : m ≤ 8 := by omega
  have hcy := calmIn_yes h1
  cases h2 : quiet k (fun i => bs.getD i false)
  · obtain ⟨f1, f2, f3⟩ := boat_no (l := l) (show boatOk k b bs t l = false by rw [boatOk, hcy, h2]; rfl)
    rw [f1, f2, f3]
    have H2 := Lib.hid h2
    clear h1 h2 hcy hy hz hl f1 f2 f3 hB hD
    go_enter Try.func24, Try.ntmps24
    go_wp2_with fail
    refine wp_region_held_drew (S := (Boxes2 w.heap.size (w.heap.size + 1) (.int .i64 k) (.int .i64 b) (.slice B m d) (.bool t))) (by kernel_rfl) (boxes2_of hc.drew hs.drew) (fun hHeld => ?_)
    replace ht := ht.drew
    replace hc := hc.drew
    replace hs := hs.drew
    replace hr := hr.drew
    replace hB2 := hB2.drew
    replace hD2 := hD2.drew
    refine wpAnyH_take (i := 0) (v := ?_) rfl (by kernel_rfl) (by kernel_rfl) (by kernel_rfl) (fun _ _ _ h => h) (Or.inl ⟨rfl, ?_⟩) hHeld ?_
    rotate_left
    · intro w' hS; obtain ⟨s0, s1, s2, s3⟩ := hS; go_simp <;> with_reducible rfl
    simp only [Act.put, List.getElem_toArray, List.getElem_cons_succ, List.getElem_cons_zero, List.setIfInBounds_toArray, List.set_cons_succ, List.set_cons_zero]
    refine wpAnyH_take (i := 1) (v := ?_) rfl (by kernel_rfl) (by kernel_rfl) (by kernel_rfl) (fun _ _ _ h => h) (Or.inl ⟨rfl, ?_⟩) hHeld ?_
    rotate_left
    · intro w' hS; obtain ⟨s0, s1, s2, s3⟩ := hS; go_simp <;> with_reducible rfl
    simp only [Act.put, List.getElem_toArray, List.getElem_cons_succ, List.getElem_cons_zero, List.setIfInBounds_toArray, List.set_cons_succ, List.set_cons_zero]
    refine wpAnyH_ready (rs := [2]) (by kernel_rfl) (by simp) (AllReadyH.cons rfl (fun K hK => ?_) AllReadyH.nil)
    go_simp
    refine (cuIs_any k b B m d bs t _ hB2 HY.out hm).mono ?_
    rintro e w1 ⟨rfl, hb⟩
    rw [H1.out]
    replace ht := below_then ht hb ht.size
    replace hc := hc.below hb
    replace hs := hs.below hb
    replace hr := hr.below hb
    replace hB2 := hB2.below hb
    replace hD2 := hD2.below hb
    clear hb
    refine hK.out _ _ (boxes2_of hc hs) (fun hHeld => ?_)
    clear hK K
    try simp only [Act.put, List.getElem_toArray, List.getElem_cons_succ, List.getElem_cons_zero, List.setIfInBounds_toArray, List.set_cons_succ, List.set_cons_zero]
    refine wpAnyH_take (i := 3) (v := ?_) rfl (by kernel_rfl) (by kernel_rfl) (by kernel_rfl) (fun _ _ _ h => h) (Or.inl ⟨rfl, ?_⟩) hHeld ?_
    rotate_left
    · intro w' hS; obtain ⟨s0, s1, s2, s3⟩ := hS; go_simp <;> with_reducible rfl
    simp only [Act.put, List.getElem_toArray, List.getElem_cons_succ, List.getElem_cons_zero, List.setIfInBounds_toArray, List.set_cons_succ, List.set_cons_zero]
    refine wpAnyH_take (i := 4) (v := ?_) rfl (by kernel_rfl) (by kernel_rfl) (by kernel_rfl) (fun _ _ _ h => h) (Or.inl ⟨rfl, ?_⟩) hHeld ?_
    rotate_left
    · intro w' hS; obtain ⟨s0, s1, s2, s3⟩ := hS; go_simp <;> with_reducible rfl
    simp only [Act.put, List.getElem_toArray, List.getElem_cons_succ, List.getElem_cons_zero, List.setIfInBounds_toArray, List.set_cons_succ, List.set_cons_zero]
    refine wpAnyH_take (i := 5) (v := ?_) rfl (by kernel_rfl) (by kernel_rfl) (by kernel_rfl) (fun _ _ _ h => h) (Or.inl ⟨rfl, ?_⟩) hHeld ?_
    rotate_left
    · intro w' hS; obtain ⟨s0, s1, s2, s3⟩ := hS; go_simp <;> with_reducible rfl
    simp only [Act.put, List.getElem_toArray, List.getElem_cons_succ, List.getElem_cons_zero, List.setIfInBounds_toArray, List.set_cons_succ, List.set_cons_zero]
    refine wpAnyH_take (i := 6) (v := ?_) rfl (by kernel_rfl) (by kernel_rfl) (by kernel_rfl) (fun _ _ _ h => h) (Or.inl ⟨rfl, ?_⟩) hHeld ?_
    rotate_left
    · intro w' hS; obtain ⟨s0, s1, s2, s3⟩ := hS; go_simp <;> with_reducible rfl
    simp only [Act.put, List.getElem_toArray, List.getElem_cons_succ, List.getElem_cons_zero, List.setIfInBounds_toArray, List.set_cons_succ, List.set_cons_zero]
    refine wpAnyH_ready (rs := [7]) (by kernel_rfl) (by simp) (AllReadyH.cons rfl (fun K hK => ?_) AllReadyH.nil)
    go_simp
    refine (cuCode_any B m d bs t _ hB2 HY.out (by omega)).mono ?_
    rintro e w2 ⟨rfl, hb⟩
    replace ht := below_then ht hb ht.size
    replace hc := hc.below hb
    replace hs := hs.below hb
    replace hr := hr.below hb
    replace hB2 := hB2.below hb
    replace hD2 := hD2.below hb
    clear hb
    refine hK.out _ _ (boxes2_of hc hs) (fun hHeld => ?_)
    clear hK K
    try simp only [Act.put, List.getElem_toArray, List.getElem_cons_succ, List.getElem_cons_zero, List.setIfInBounds_toArray, List.set_cons_succ, List.set_cons_zero]
    refine wpAnyH_ready (rs := [8]) (by kernel_rfl) (by simp) (AllReadyH.cons rfl (fun K hK => ?_) AllReadyH.nil)
    go_simp
    refine (cuQuiet_any k _ b _ (by omega) HLT.out).mono ?_
    rintro e w3 ⟨rfl, hb⟩
    rw [HQ.out, H2.out]
    replace ht := below_then ht hb ht.size
    replace hc := hc.below hb
    replace hs := hs.below hb
    replace hr := hr.below hb
    replace hB2 := hB2.below hb
    replace hD2 := hD2.below hb
    clear hb
    refine hK.out _ _ (boxes2_of hc hs) (fun hHeld => ?_)
    clear hK K
    try simp only [Act.put, List.getElem_toArray, List.getElem_cons_succ, List.getElem_cons_zero, List.setIfInBounds_toArray, List.set_cons_succ, List.set_cons_zero]
    refine wpAnyH_take (i := 9) (v := ?_) rfl (by kernel_rfl) (by kernel_rfl) (by kernel_rfl) (fun _ _ _ h => h) (Or.inl ⟨rfl, ?_⟩) hHeld ?_
    rotate_left
    · intro w' hS; obtain ⟨s0, s1, s2, s3⟩ := hS; go_simp <;> with_reducible rfl
    simp only [Act.put, List.getElem_toArray, List.getElem_cons_succ, List.getElem_cons_zero, List.setIfInBounds_toArray, List.set_cons_succ, List.set_cons_zero]
    refine wpAnyH_take (i := 10) (v := ?_) rfl (by kernel_rfl) (by kernel_rfl) (by kernel_rfl) (fun _ _ _ h => h) (Or.inl ⟨rfl, ?_⟩) hHeld ?_
    rotate_left
    · intro w' hS; obtain ⟨s0, s1, s2, s3⟩ := hS; go_simp <;> with_reducible rfl
    simp only [Act.put, List.getElem_toArray, List.getElem_cons_succ, List.getElem_cons_zero, List.setIfInBounds_toArray, List.set_cons_succ, List.set_cons_zero]
    refine wpAnyH_take (i := 11) (v := ?_) rfl (by kernel_rfl) (by kernel_rfl) (by kernel_rfl) (fun _ _ _ h => h) (Or.inl ⟨rfl, ?_⟩) hHeld ?_
    rotate_left
    · intro w' hS; obtain ⟨s0, s1, s2, s3⟩ := hS; go_simp <;> with_reducible rfl
    simp only [Act.put, List.getElem_toArray, List.getElem_cons_succ, List.getElem_cons_zero, List.setIfInBounds_toArray, List.set_cons_succ, List.set_cons_zero]
    refine wpAnyH_take (i := 12) (v := undef) rfl (by kernel_rfl) (by kernel_rfl) (by kernel_rfl) (fun _ _ _ h => h) (Or.inr ⟨by simp [Region.wanted, yielded], rfl⟩) hHeld ?_
    simp only [Act.put, List.getElem_toArray, List.getElem_cons_succ, List.getElem_cons_zero, List.setIfInBounds_toArray, List.set_cons_succ, List.set_cons_zero]
    refine wpAnyH_take (i := 13) (v := undef) rfl (by kernel_rfl) (by kernel_rfl) (by kernel_rfl) (fun _ _ _ h => h) (Or.inr ⟨by simp [Region.wanted, yielded], rfl⟩) hHeld ?_
    simp only [Act.put, List.getElem_toArray, List.getElem_cons_succ, List.getElem_cons_zero, List.setIfInBounds_toArray, List.set_cons_succ, List.set_cons_zero]
    refine wpAnyH_take (i := 14) (v := undef) rfl (by kernel_rfl) (by kernel_rfl) (by kernel_rfl) (fun _ _ _ h => h) (Or.inr ⟨by simp [Region.wanted, yielded], rfl⟩) hHeld ?_
    simp only [Act.put, List.getElem_toArray, List.getElem_cons_succ, List.getElem_cons_zero, List.setIfInBounds_toArray, List.set_cons_succ, List.set_cons_zero]
    refine wpAnyH_take (i := 15) (v := undef) rfl (by kernel_rfl) (by kernel_rfl) (by kernel_rfl) (fun _ _ _ h => h) (Or.inr ⟨by simp [Region.wanted, yielded], rfl⟩) hHeld ?_
    simp only [Act.put, List.getElem_toArray, List.getElem_cons_succ, List.getElem_cons_zero, List.setIfInBounds_toArray, List.set_cons_succ, List.set_cons_zero]
    refine wpAnyH_take (i := 16) (v := undef) rfl (by kernel_rfl) (by kernel_rfl) (by kernel_rfl) (fun _ _ _ h => h) (Or.inr ⟨by simp [Region.wanted, yielded], rfl⟩) hHeld ?_
    simp only [Act.put, List.getElem_toArray, List.getElem_cons_succ, List.getElem_cons_zero, List.setIfInBounds_toArray, List.set_cons_succ, List.set_cons_zero]
    refine wpAnyH_take (i := 17) (v := undef) rfl (by kernel_rfl) (by kernel_rfl) (by kernel_rfl) (fun _ _ _ h => h) (Or.inr ⟨by simp [Region.wanted, yielded], rfl⟩) hHeld ?_
    simp only [Act.put, List.getElem_toArray, List.getElem_cons_succ, List.getElem_cons_zero, List.setIfInBounds_toArray, List.set_cons_succ, List.set_cons_zero]
    refine wpAnyH_take (i := 18) (v := ?_) rfl (by kernel_rfl) (by kernel_rfl) (by kernel_rfl) (fun _ _ _ h => h) (Or.inl ⟨rfl, ?_⟩) hHeld ?_
    rotate_left
    · intro w' hS; obtain ⟨s0, s1, s2, s3⟩ := hS; go_simp <;> with_reducible rfl
    simp only [Act.put, List.getElem_toArray, List.getElem_cons_succ, List.getElem_cons_zero, List.setIfInBounds_toArray, List.set_cons_succ, List.set_cons_zero]
    refine wpAnyH_done (by kernel_rfl) ?_ _
    clear hHeld
    obtain ⟨r0, r1, g0, g1⟩ := hr.two
    clear hc hs hr hB2 hD2
    go_wp2
    refine bodyPost_ret (v := .tuple #[.agg #[.slice none 0 0, .bool false], .bool false]) (by simp [results, Try.results24, go_sem, r0, r1]) rfl ⟨none, 0, rfl, .inl rfl, below_set (below_set ht (by omega)) (by omega)⟩
  have H2 := Lib.hid h2
  cases h3 : tripM k b (codeOf bs t) l
  · obtain ⟨f1, f2, f3⟩ := boat_no (show boatOk k b bs t l = false by simp [boatOk, h3])
    rw [f1, f2, f3]
    have H3 := Lib.hid h3
    clear h1 h2 h3 hcy hy hz hl f1 f2 f3 hB hD
    go_enter Try.func24, Try.ntmps24
    go_wp2_with fail
    refine wp_region_held_drew (S := (Boxes2 w.heap.size (w.heap.size + 1) (.int .i64 k) (.int .i64 b) (.slice B m d) (.bool t))) (by kernel_rfl) (boxes2_of hc.drew hs.drew) (fun hHeld => ?_)
    replace ht := ht.drew
    replace hc := hc.drew
    replace hs := hs.drew
    replace hr := hr.drew
    replace hB2 := hB2.drew
    replace hD2 := hD2.drew
    refine wpAnyH_take (i := 0) (v := ?_) rfl (by kernel_rfl) (by kernel_rfl) (by kernel_rfl) (fun _ _ _ h => h) (Or.inl ⟨rfl, ?_⟩) hHeld ?_
    rotate_left
    · intro w' hS; obtain ⟨s0, s1, s2, s3⟩ := hS; go_simp <;> with_reducible rfl
    simp only [Act.put, List.getElem_toArray, List.getElem_cons_succ, List.getElem_cons_zero, List.setIfInBounds_toArray, List.set_cons_succ, List.set_cons_zero]
    refine wpAnyH_take (i := 1) (v := ?_) rfl (by kernel_rfl) (by kernel_rfl) (by kernel_rfl) (fun _ _ _ h => h) (Or.inl ⟨rfl, ?_⟩) hHeld ?_
    rotate_left
    · intro w' hS; obtain ⟨s0, s1, s2, s3⟩ := hS; go_simp <;> with_reducible rfl
    simp only [Act.put, List.getElem_toArray, List.getElem_cons_succ, List.getElem_cons_zero, List.setIfInBounds_toArray, List.set_cons_succ, List.set_cons_zero]
    refine wpAnyH_ready (rs := [2]) (by kernel_rfl) (by simp) (AllReadyH.cons rfl (fun K hK => ?_) AllReadyH.nil)
    go_simp
    refine (cuIs_any k b B m d bs t _ hB2 HY.out hm).mono ?_
    rintro e w1 ⟨rfl, hb⟩
    rw [H1.out]
    replace ht := below_then ht hb ht.size
    replace hc := hc.below hb
    replace hs := hs.below hb
    replace hr := hr.below hb
    replace hB2 := hB2.below hb
    replace hD2 := hD2.below hb
    clear hb
    refine hK.out _ _ (boxes2_of hc hs) (fun hHeld => ?_)
    clear hK K
    try simp only [Act.put, List.getElem_toArray, List.getElem_cons_succ, List.getElem_cons_zero, List.setIfInBounds_toArray, List.set_cons_succ, List.set_cons_zero]
    refine wpAnyH_take (i := 3) (v := ?_) rfl (by kernel_rfl) (by kernel_rfl) (by kernel_rfl) (fun _ _ _ h => h) (Or.inl ⟨rfl, ?_⟩) hHeld ?_
    rotate_left
    · intro w' hS; obtain ⟨s0, s1, s2, s3⟩ := hS; go_simp <;> with_reducible rfl
    simp only [Act.put, List.getElem_toArray, List.getElem_cons_succ, List.getElem_cons_zero, List.setIfInBounds_toArray, List.set_cons_succ, List.set_cons_zero]
    refine wpAnyH_take (i := 4) (v := ?_) rfl (by kernel_rfl) (by kernel_rfl) (by kernel_rfl) (fun _ _ _ h => h) (Or.inl ⟨rfl, ?_⟩) hHeld ?_
    rotate_left
    · intro w' hS; obtain ⟨s0, s1, s2, s3⟩ := hS; go_simp <;> with_reducible rfl
    simp only [Act.put, List.getElem_toArray, List.getElem_cons_succ, List.getElem_cons_zero, List.setIfInBounds_toArray, List.set_cons_succ, List.set_cons_zero]
    refine wpAnyH_take (i := 5) (v := ?_) rfl (by kernel_rfl) (by kernel_rfl) (by kernel_rfl) (fun _ _ _ h => h) (Or.inl ⟨rfl, ?_⟩) hHeld ?_
    rotate_left
    · intro w' hS; obtain ⟨s0, s1, s2, s3⟩ := hS; go_simp <;> with_reducible rfl
    simp only [Act.put, List.getElem_toArray, List.getElem_cons_succ, List.getElem_cons_zero, List.setIfInBounds_toArray, List.set_cons_succ, List.set_cons_zero]
    refine wpAnyH_take (i := 6) (v := ?_) rfl (by kernel_rfl) (by kernel_rfl) (by kernel_rfl) (fun _ _ _ h => h) (Or.inl ⟨rfl, ?_⟩) hHeld ?_
    rotate_left
    · intro w' hS; obtain ⟨s0, s1, s2, s3⟩ := hS; go_simp <;> with_reducible rfl
    simp only [Act.put, List.getElem_toArray, List.getElem_cons_succ, List.getElem_cons_zero, List.setIfInBounds_toArray, List.set_cons_succ, List.set_cons_zero]
    refine wpAnyH_ready (rs := [7]) (by kernel_rfl) (by simp) (AllReadyH.cons rfl (fun K hK => ?_) AllReadyH.nil)
    go_simp
    refine (cuCode_any B m d bs t _ hB2 HY.out (by omega)).mono ?_
    rintro e w2 ⟨rfl, hb⟩
    replace ht := below_then ht hb ht.size
    replace hc := hc.below hb
    replace hs := hs.below hb
    replace hr := hr.below hb
    replace hB2 := hB2.below hb
    replace hD2 := hD2.below hb
    clear hb
    refine hK.out _ _ (boxes2_of hc hs) (fun hHeld => ?_)
    clear hK K
    try simp only [Act.put, List.getElem_toArray, List.getElem_cons_succ, List.getElem_cons_zero, List.setIfInBounds_toArray, List.set_cons_succ, List.set_cons_zero]
    refine wpAnyH_ready (rs := [8]) (by kernel_rfl) (by simp) (AllReadyH.cons rfl (fun K hK => ?_) AllReadyH.nil)
    go_simp
    refine (cuQuiet_any k _ b _ (by omega) HLT.out).mono ?_
    rintro e w3 ⟨rfl, hb⟩
    rw [HQ.out, H2.out]
    replace ht := below_then ht hb ht.size
    replace hc := hc.below hb
    replace hs := hs.below hb
    replace hr := hr.below hb
    replace hB2 := hB2.below hb
    replace hD2 := hD2.below hb
    clear hb
    refine hK.out _ _ (boxes2_of hc hs) (fun hHeld => ?_)
    clear hK K
    try simp only [Act.put, List.getElem_toArray, List.getElem_cons_succ, List.getElem_cons_zero, List.setIfInBounds_toArray, List.set_cons_succ, List.set_cons_zero]
    refine wpAnyH_take (i := 9) (v := ?_) rfl (by kernel_rfl) (by kernel_rfl) (by kernel_rfl) (fun _ _ _ h => h) (Or.inl ⟨rfl, ?_⟩) hHeld ?_
    rotate_left
    · intro w' hS; obtain ⟨s0, s1, s2, s3⟩ := hS; go_simp <;> with_reducible rfl
    simp only [Act.put, List.getElem_toArray, List.getElem_cons_succ, List.getElem_cons_zero, List.setIfInBounds_toArray, List.set_cons_succ, List.set_cons_zero]
    refine wpAnyH_take (i := 10) (v := ?_) rfl (by kernel_rfl) (by kernel_rfl) (by kernel_rfl) (fun _ _ _ h => h) (Or.inl ⟨rfl, ?_⟩) hHeld ?_
    rotate_left
    · intro w' hS; obtain ⟨s0, s1, s2, s3⟩ := hS; go_simp <;> with_reducible rfl
    simp only [Act.put, List.getElem_toArray, List.getElem_cons_succ, List.getElem_cons_zero, List.setIfInBounds_toArray, List.set_cons_succ, List.set_cons_zero]
    refine wpAnyH_take (i := 11) (v := ?_) rfl (by kernel_rfl) (by kernel_rfl) (by kernel_rfl) (fun _ _ _ h => h) (Or.inl ⟨rfl, ?_⟩) hHeld ?_
    rotate_left
    · intro w' hS; obtain ⟨s0, s1, s2, s3⟩ := hS; go_simp <;> with_reducible rfl
    simp only [Act.put, List.getElem_toArray, List.getElem_cons_succ, List.getElem_cons_zero, List.setIfInBounds_toArray, List.set_cons_succ, List.set_cons_zero]
    refine wpAnyH_take (i := 12) (v := ?_) rfl (by kernel_rfl) (by kernel_rfl) (by kernel_rfl) (fun _ _ _ h => h) (Or.inl ⟨rfl, ?_⟩) hHeld ?_
    rotate_left
    · intro w' hS; obtain ⟨s0, s1, s2, s3⟩ := hS; go_simp <;> with_reducible rfl
    simp only [Act.put, List.getElem_toArray, List.getElem_cons_succ, List.getElem_cons_zero, List.setIfInBounds_toArray, List.set_cons_succ, List.set_cons_zero]
    refine wpAnyH_take (i := 13) (v := ?_) rfl (by kernel_rfl) (by kernel_rfl) (by kernel_rfl) (fun _ _ _ h => h) (Or.inl ⟨rfl, ?_⟩) hHeld ?_
    rotate_left
    · intro w' hS; obtain ⟨s0, s1, s2, s3⟩ := hS; go_simp <;> with_reducible rfl
    simp only [Act.put, List.getElem_toArray, List.getElem_cons_succ, List.getElem_cons_zero, List.setIfInBounds_toArray, List.set_cons_succ, List.set_cons_zero]
    refine wpAnyH_take (i := 15) (v := ?_) rfl (by kernel_rfl) (by kernel_rfl) (by kernel_rfl) (fun _ _ _ h => h) (Or.inl ⟨rfl, ?_⟩) hHeld ?_
    rotate_left
    · intro w' hS; obtain ⟨s0, s1, s2, s3⟩ := hS; go_simp <;> with_reducible rfl
    simp only [Act.put, List.getElem_toArray, List.getElem_cons_succ, List.getElem_cons_zero, List.setIfInBounds_toArray, List.set_cons_succ, List.set_cons_zero]
    refine wpAnyH_ready (rs := [14]) (by kernel_rfl) (by simp) (AllReadyH.cons rfl (fun K hK => ?_) AllReadyH.nil)
    go_simp
    refine (cuCode_any B m d bs t _ hB2 HY.out (by omega)).mono ?_
    rintro e w2 ⟨rfl, hb⟩
    replace ht := below_then ht hb ht.size
    replace hc := hc.below hb
    replace hs := hs.below hb
    replace hr := hr.below hb
    replace hB2 := hB2.below hb
    replace hD2 := hD2.below hb
    clear hb
    refine hK.out _ _ (boxes2_of hc hs) (fun hHeld => ?_)
    clear hK K
    try simp only [Act.put, List.getElem_toArray, List.getElem_cons_succ, List.getElem_cons_zero, List.setIfInBounds_toArray, List.set_cons_succ, List.set_cons_zero]
    refine wpAnyH_ready (rs := [16]) (by kernel_rfl) (by simp) (AllReadyH.cons rfl (fun K hK => ?_) AllReadyH.nil)
    go_simp
    refine (cuTrip_any k b _ D q z l _ hk HLT.out hD2 HZ.out hq).mono ?_
    rintro e w5 ⟨rfl, hb⟩
    rw [H3.out]
    replace ht := below_then ht hb ht.size
    replace hc := hc.below hb
    replace hs := hs.below hb
    replace hr := hr.below hb
    replace hB2 := hB2.below hb
    replace hD2 := hD2.below hb
    clear hb
    refine hK.out _ _ (boxes2_of hc hs) (fun hHeld => ?_)
    clear hK K
    try simp only [Act.put, List.getElem_toArray, List.getElem_cons_succ, List.getElem_cons_zero, List.setIfInBounds_toArray, List.set_cons_succ, List.set_cons_zero]
    refine wpAnyH_take (i := 17) (v := ?_) rfl (by kernel_rfl) (by kernel_rfl) (by kernel_rfl) (fun _ _ _ h => h) (Or.inl ⟨rfl, ?_⟩) hHeld ?_
    rotate_left
    · intro w' hS; obtain ⟨s0, s1, s2, s3⟩ := hS; go_simp <;> with_reducible rfl
    simp only [Act.put, List.getElem_toArray, List.getElem_cons_succ, List.getElem_cons_zero, List.setIfInBounds_toArray, List.set_cons_succ, List.set_cons_zero]
    refine wpAnyH_take (i := 18) (v := ?_) rfl (by kernel_rfl) (by kernel_rfl) (by kernel_rfl) (fun _ _ _ h => h) (Or.inl ⟨rfl, ?_⟩) hHeld ?_
    rotate_left
    · intro w' hS; obtain ⟨s0, s1, s2, s3⟩ := hS; go_simp <;> with_reducible rfl
    simp only [Act.put, List.getElem_toArray, List.getElem_cons_succ, List.getElem_cons_zero, List.setIfInBounds_toArray, List.set_cons_succ, List.set_cons_zero]
    refine wpAnyH_done (by kernel_rfl) ?_ _
    clear hHeld
    obtain ⟨r0, r1, g0, g1⟩ := hr.two
    clear hc hs hr hB2 hD2
    go_wp2
    refine bodyPost_ret (v := .tuple #[.agg #[.slice none 0 0, .bool false], .bool false]) (by simp [results, Try.results24, go_sem, r0, r1]) rfl ⟨none, 0, rfl, .inl rfl, below_set (below_set ht (by omega)) (by omega)⟩
  obtain ⟨f1, f2, f3⟩ := boat_yes (show boatOk k b bs t l = true by rw [boatOk, hcy, h2]; simpa using h3)
  rw [f1, f2, f3]
  have H3 := Lib.hid h3
  obtain ⟨hst, hmk⟩ := trip_mask hk h3
  have hbd : ∀ x ∈ l, 0 ≤ x ∧ x < ((2 * k : Nat) : Int) := fun x hx => by have := mem_steps hst hx; omega
  have hp := pow_c hk
  have hm8' : maskOf l < 256 := by omega
  have HST := Lib.hid hst
  have hwA : IntKind.i64.wrap (2 * (maskOf l : Int)) = 2 * (maskOf l : Int) := IntWalk.i64_in _ (by omega)
  have hwB : IntKind.i64.wrap (2 * (maskOf l : Int) + 1) = 2 * (maskOf l : Int) + 1 := IntWalk.i64_in _ (by omega)
  have hsc := step_code (t := t) hl hbd
  have hc9 : codeOf bs t / 2 < 256 := Nat.lt_of_lt_of_le HLT.out hp
  obtain ⟨X, hX⟩ : ∃ X : Nat, X = stepC (codeOf bs t) l := ⟨_, rfl⟩
  have HFL := Lib.hid (show (flipped bs l).length = 2 * k by rw [flipped_len]; exact hl)
  have HE1 : Hid (bitsOf (X / 2) (2 * k) = flipped bs l) := by show _ = _; rw [hX, hsc]; exact bits_back HFL.out
  have HE2 : Hid (bitAt X 0 = !t) := by show _ = _; rw [hX, hsc]; exact torch_back _ _
  have HXX : Hid (Go.bits .xor .i64 (codeOf bs t : Int) (2 * (maskOf l : Int) + 1) = (X : Int)) := by
    show _ = _
    rw [show (2 * (maskOf l : Int) + 1) = ((2 * maskOf l + 1 : Nat) : Int) by omega, bits_xor_nat _ _ (by omega) (by omega), hX]
    rfl
  replace hX : X < 1048576 := by
    have := stepC_lt (k := k) (l := l) HLT.out hmk
    rw [← hX] at this
    omega
  clear h1 h2 h3 hcy hy hz hl f1 f2 f3 hB hD hst hmk hbd hp hsc
  go_enter Try.func24, Try.ntmps24
  go_wp2_with fail
  refine wp_region_held_drew (S := (Boxes2 w.heap.size (w.heap.size + 1) (.int .i64 k) (.int .i64 b) (.slice B m d) (.bool t))) (by kernel_rfl) (boxes2_of hc.drew hs.drew) (fun hHeld => ?_)
  replace ht := ht.drew
  replace hc := hc.drew
  replace hs := hs.drew
  replace hr := hr.drew
  replace hB2 := hB2.drew
  replace hD2 := hD2.drew
  refine wpAnyH_take (i := 0) (v := ?_) rfl (by kernel_rfl) (by kernel_rfl) (by kernel_rfl) (fun _ _ _ h => h) (Or.inl ⟨rfl, ?_⟩) hHeld ?_
  rotate_left
  · intro w' hS; obtain ⟨s0, s1, s2, s3⟩ := hS; go_simp <;> with_reducible rfl
  simp only [Act.put, List.getElem_toArray, List.getElem_cons_succ, List.getElem_cons_zero, List.setIfInBounds_toArray, List.set_cons_succ, List.set_cons_zero]
  refine wpAnyH_take (i := 1) (v := ?_) rfl (by kernel_rfl) (by kernel_rfl) (by kernel_rfl) (fun _ _ _ h => h) (Or.inl ⟨rfl, ?_⟩) hHeld ?_
  rotate_left
  · intro w' hS; obtain ⟨s0, s1, s2, s3⟩ := hS; go_simp <;> with_reducible rfl
  simp only [Act.put, List.getElem_toArray, List.getElem_cons_succ, List.getElem_cons_zero, List.setIfInBounds_toArray, List.set_cons_succ, List.set_cons_zero]
  refine wpAnyH_ready (rs := [2]) (by kernel_rfl) (by simp) (AllReadyH.cons rfl (fun K hK => ?_) AllReadyH.nil)
  go_simp
  refine (cuIs_any k b B m d bs t _ hB2 HY.out hm).mono ?_
  rintro e w1 ⟨rfl, hb⟩
  rw [H1.out]
  replace ht := below_then ht hb ht.size
  replace hc := hc.below hb
  replace hs := hs.below hb
  replace hr := hr.below hb
  replace hB2 := hB2.below hb
  replace hD2 := hD2.below hb
  clear hb
  refine hK.out _ _ (boxes2_of hc hs) (fun hHeld => ?_)
  clear hK K
  try simp only [Act.put, List.getElem_toArray, List.getElem_cons_succ, List.getElem_cons_zero, List.setIfInBounds_toArray, List.set_cons_succ, List.set_cons_zero]
  refine wpAnyH_take (i := 3) (v := ?_) rfl (by kernel_rfl) (by kernel_rfl) (by kernel_rfl) (fun _ _ _ h => h) (Or.inl ⟨rfl, ?_⟩) hHeld ?_
  rotate_left
  · intro w' hS; obtain ⟨s0, s1, s2, s3⟩ := hS; go_simp <;> with_reducible rfl
  simp only [Act.put, List.getElem_toArray, List.getElem_cons_succ, List.getElem_cons_zero, List.setIfInBounds_toArray, List.set_cons_succ, List.set_cons_zero]
  refine wpAnyH_take (i := 4) (v := ?_) rfl (by kernel_rfl) (by kernel_rfl) (by kernel_rfl) (fun _ _ _ h => h) (Or.inl ⟨rfl, ?_⟩) hHeld ?_
  rotate_left
  · intro w' hS; obtain ⟨s0, s1, s2, s3⟩ := hS; go_simp <;> with_reducible rfl
  simp only [Act.put, List.getElem_toArray, List.getElem_cons_succ, List.getElem_cons_zero, List.setIfInBounds_toArray, List.set_cons_succ, List.set_cons_zero]
  refine wpAnyH_take (i := 5) (v := ?_) rfl (by kernel_rfl) (by kernel_rfl) (by kernel_rfl) (fun _ _ _ h => h) (Or.inl ⟨rfl, ?_⟩) hHeld ?_
  rotate_left
  · intro w' hS; obtain ⟨s0, s1, s2, s3⟩ := hS; go_simp <;> with_reducible rfl
  simp only [Act.put, List.getElem_toArray, List.getElem_cons_succ, List.getElem_cons_zero, List.setIfInBounds_toArray, List.set_cons_succ, List.set_cons_zero]
  refine wpAnyH_take (i := 6) (v := ?_) rfl (by kernel_rfl) (by kernel_rfl) (by kernel_rfl) (fun _ _ _ h => h) (Or.inl ⟨rfl, ?_⟩) hHeld ?_
  rotate_left
  · intro w' hS; obtain ⟨s0, s1, s2, s3⟩ := hS; go_simp <;> with_reducible rfl
  simp only [Act.put, List.getElem_toArray, List.getElem_cons_succ, List.getElem_cons_zero, List.setIfInBounds_toArray, List.set_cons_succ, List.set_cons_zero]
  refine wpAnyH_ready (rs := [7]) (by kernel_rfl) (by simp) (AllReadyH.cons rfl (fun K hK => ?_) AllReadyH.nil)
  go_simp
  refine (cuCode_any B m d bs t _ hB2 HY.out (by omega)).mono ?_
  rintro e w2 ⟨rfl, hb⟩
  replace ht := below_then ht hb ht.size
  replace hc := hc.below hb
  replace hs := hs.below hb
  replace hr := hr.below hb
  replace hB2 := hB2.below hb
  replace hD2 := hD2.below hb
  clear hb
  refine hK.out _ _ (boxes2_of hc hs) (fun hHeld => ?_)
  clear hK K
  try simp only [Act.put, List.getElem_toArray, List.getElem_cons_succ, List.getElem_cons_zero, List.setIfInBounds_toArray, List.set_cons_succ, List.set_cons_zero]
  refine wpAnyH_ready (rs := [8]) (by kernel_rfl) (by simp) (AllReadyH.cons rfl (fun K hK => ?_) AllReadyH.nil)
  go_simp
  refine (cuQuiet_any k _ b _ (by omega) HLT.out).mono ?_
  rintro e w3 ⟨rfl, hb⟩
  rw [HQ.out, H2.out]
  replace ht := below_then ht hb ht.size
  replace hc := hc.below hb
  replace hs := hs.below hb
  replace hr := hr.below hb
  replace hB2 := hB2.below hb
  replace hD2 := hD2.below hb
  clear hb
  refine hK.out _ _ (boxes2_of hc hs) (fun hHeld => ?_)
  clear hK K
  try simp only [Act.put, List.getElem_toArray, List.getElem_cons_succ, List.getElem_cons_zero, List.setIfInBounds_toArray, List.set_cons_succ, List.set_cons_zero]
  refine wpAnyH_take (i := 9) (v := ?_) rfl (by kernel_rfl) (by kernel_rfl) (by kernel_rfl) (fun _ _ _ h => h) (Or.inl ⟨rfl, ?_⟩) hHeld ?_
  rotate_left
  · intro w' hS; obtain ⟨s0, s1, s2, s3⟩ := hS; go_simp <;> with_reducible rfl
  simp only [Act.put, List.getElem_toArray, List.getElem_cons_succ, List.getElem_cons_zero, List.setIfInBounds_toArray, List.set_cons_succ, List.set_cons_zero]
  refine wpAnyH_take (i := 10) (v := ?_) rfl (by kernel_rfl) (by kernel_rfl) (by kernel_rfl) (fun _ _ _ h => h) (Or.inl ⟨rfl, ?_⟩) hHeld ?_
  rotate_left
  · intro w' hS; obtain ⟨s0, s1, s2, s3⟩ := hS; go_simp <;> with_reducible rfl
  simp only [Act.put, List.getElem_toArray, List.getElem_cons_succ, List.getElem_cons_zero, List.setIfInBounds_toArray, List.set_cons_succ, List.set_cons_zero]
  refine wpAnyH_take (i := 11) (v := ?_) rfl (by kernel_rfl) (by kernel_rfl) (by kernel_rfl) (fun _ _ _ h => h) (Or.inl ⟨rfl, ?_⟩) hHeld ?_
  rotate_left
  · intro w' hS; obtain ⟨s0, s1, s2, s3⟩ := hS; go_simp <;> with_reducible rfl
  simp only [Act.put, List.getElem_toArray, List.getElem_cons_succ, List.getElem_cons_zero, List.setIfInBounds_toArray, List.set_cons_succ, List.set_cons_zero]
  refine wpAnyH_take (i := 12) (v := ?_) rfl (by kernel_rfl) (by kernel_rfl) (by kernel_rfl) (fun _ _ _ h => h) (Or.inl ⟨rfl, ?_⟩) hHeld ?_
  rotate_left
  · intro w' hS; obtain ⟨s0, s1, s2, s3⟩ := hS; go_simp <;> with_reducible rfl
  simp only [Act.put, List.getElem_toArray, List.getElem_cons_succ, List.getElem_cons_zero, List.setIfInBounds_toArray, List.set_cons_succ, List.set_cons_zero]
  refine wpAnyH_take (i := 13) (v := ?_) rfl (by kernel_rfl) (by kernel_rfl) (by kernel_rfl) (fun _ _ _ h => h) (Or.inl ⟨rfl, ?_⟩) hHeld ?_
  rotate_left
  · intro w' hS; obtain ⟨s0, s1, s2, s3⟩ := hS; go_simp <;> with_reducible rfl
  simp only [Act.put, List.getElem_toArray, List.getElem_cons_succ, List.getElem_cons_zero, List.setIfInBounds_toArray, List.set_cons_succ, List.set_cons_zero]
  refine wpAnyH_take (i := 15) (v := ?_) rfl (by kernel_rfl) (by kernel_rfl) (by kernel_rfl) (fun _ _ _ h => h) (Or.inl ⟨rfl, ?_⟩) hHeld ?_
  rotate_left
  · intro w' hS; obtain ⟨s0, s1, s2, s3⟩ := hS; go_simp <;> with_reducible rfl
  simp only [Act.put, List.getElem_toArray, List.getElem_cons_succ, List.getElem_cons_zero, List.setIfInBounds_toArray, List.set_cons_succ, List.set_cons_zero]
  refine wpAnyH_ready (rs := [14]) (by kernel_rfl) (by simp) (AllReadyH.cons rfl (fun K hK => ?_) AllReadyH.nil)
  go_simp
  refine (cuCode_any B m d bs t _ hB2 HY.out (by omega)).mono ?_
  rintro e w2 ⟨rfl, hb⟩
  replace ht := below_then ht hb ht.size
  replace hc := hc.below hb
  replace hs := hs.below hb
  replace hr := hr.below hb
  replace hB2 := hB2.below hb
  replace hD2 := hD2.below hb
  clear hb
  refine hK.out _ _ (boxes2_of hc hs) (fun hHeld => ?_)
  clear hK K
  try simp only [Act.put, List.getElem_toArray, List.getElem_cons_succ, List.getElem_cons_zero, List.setIfInBounds_toArray, List.set_cons_succ, List.set_cons_zero]
  refine wpAnyH_ready (rs := [16]) (by kernel_rfl) (by simp) (AllReadyH.cons rfl (fun K hK => ?_) AllReadyH.nil)
  go_simp
  refine (cuTrip_any k b _ D q z l _ hk HLT.out hD2 HZ.out hq).mono ?_
  rintro e w5 ⟨rfl, hb⟩
  rw [H3.out]
  replace ht := below_then ht hb ht.size
  replace hc := hc.below hb
  replace hs := hs.below hb
  replace hr := hr.below hb
  replace hB2 := hB2.below hb
  replace hD2 := hD2.below hb
  clear hb
  refine hK.out _ _ (boxes2_of hc hs) (fun hHeld => ?_)
  clear hK K
  try simp only [Act.put, List.getElem_toArray, List.getElem_cons_succ, List.getElem_cons_zero, List.setIfInBounds_toArray, List.set_cons_succ, List.set_cons_zero]
  refine wpAnyH_take (i := 17) (v := ?_) rfl (by kernel_rfl) (by kernel_rfl) (by kernel_rfl) (fun _ _ _ h => h) (Or.inl ⟨rfl, ?_⟩) hHeld ?_
  rotate_left
  · intro w' hS; obtain ⟨s0, s1, s2, s3⟩ := hS; go_simp <;> with_reducible rfl
  simp only [Act.put, List.getElem_toArray, List.getElem_cons_succ, List.getElem_cons_zero, List.setIfInBounds_toArray, List.set_cons_succ, List.set_cons_zero]
  refine wpAnyH_take (i := 18) (v := ?_) rfl (by kernel_rfl) (by kernel_rfl) (by kernel_rfl) (fun _ _ _ h => h) (Or.inl ⟨rfl, ?_⟩) hHeld ?_
  rotate_left
  · intro w' hS; obtain ⟨s0, s1, s2, s3⟩ := hS; go_simp <;> with_reducible rfl
  simp only [Act.put, List.getElem_toArray, List.getElem_cons_succ, List.getElem_cons_zero, List.setIfInBounds_toArray, List.set_cons_succ, List.set_cons_zero]
  refine wpAnyH_done (by kernel_rfl) ?_ _
  clear hHeld
  go_wp2_with fail
  refine wp_region_held_drew (S := (Boxes2 w.heap.size (w.heap.size + 1) (.int .i64 k) (.int .i64 b) (.slice B m d) (.bool t))) (by kernel_rfl) (boxes2_of hc.drew hs.drew) (fun hHeld => ?_)
  replace ht := ht.drew
  replace hc := hc.drew
  replace hs := hs.drew
  replace hr := hr.drew
  replace hB2 := hB2.drew
  replace hD2 := hD2.drew
  refine wpAnyH_take (i := 0) (v := ?_) rfl (by kernel_rfl) (by kernel_rfl) (by kernel_rfl) (fun _ _ _ h => h) (Or.inl ⟨rfl, ?_⟩) hHeld ?_
  rotate_left
  · intro w' hS; obtain ⟨s0, s1, s2, s3⟩ := hS; go_simp <;> with_reducible rfl
  simp only [Act.put, List.getElem_toArray, List.getElem_cons_succ, List.getElem_cons_zero, List.setIfInBounds_toArray, List.set_cons_succ, List.set_cons_zero]
  refine wpAnyH_take (i := 1) (v := ?_) rfl (by kernel_rfl) (by kernel_rfl) (by kernel_rfl) (fun _ _ _ h => h) (Or.inl ⟨rfl, ?_⟩) hHeld ?_
  rotate_left
  · intro w' hS; obtain ⟨s0, s1, s2, s3⟩ := hS; go_simp <;> with_reducible rfl
  simp only [Act.put, List.getElem_toArray, List.getElem_cons_succ, List.getElem_cons_zero, List.setIfInBounds_toArray, List.set_cons_succ, List.set_cons_zero]
  refine wpAnyH_take (i := 3) (v := ?_) rfl (by kernel_rfl) (by kernel_rfl) (by kernel_rfl) (fun _ _ _ h => h) (Or.inl ⟨rfl, ?_⟩) hHeld ?_
  rotate_left
  · intro w' hS; obtain ⟨s0, s1, s2, s3⟩ := hS; go_simp <;> with_reducible rfl
  simp only [Act.put, List.getElem_toArray, List.getElem_cons_succ, List.getElem_cons_zero, List.setIfInBounds_toArray, List.set_cons_succ, List.set_cons_zero]
  refine wpAnyH_ready (rs := [2]) (by kernel_rfl) (by simp) (AllReadyH.cons rfl (fun K hK => ?_) AllReadyH.nil)
  go_simp
  refine (cuCode_any B m d bs t _ hB2 HY.out (by omega)).mono ?_
  rintro e w2 ⟨rfl, hb⟩
  replace ht := below_then ht hb ht.size
  replace hc := hc.below hb
  replace hs := hs.below hb
  replace hr := hr.below hb
  replace hB2 := hB2.below hb
  replace hD2 := hD2.below hb
  clear hb
  refine hK.out _ _ (boxes2_of hc hs) (fun hHeld => ?_)
  clear hK K
  try simp only [Act.put, List.getElem_toArray, List.getElem_cons_succ, List.getElem_cons_zero, List.setIfInBounds_toArray, List.set_cons_succ, List.set_cons_zero]
  refine wpAnyH_ready (rs := [4]) (by kernel_rfl) (by simp) (AllReadyH.cons rfl (fun K hK => ?_) AllReadyH.nil)
  go_simp
  refine (cuBits_any D q z l (2 * k - 1) _ hD2 HZ.out hq HST.out (by omega)).mono ?_
  rintro e w6 ⟨rfl, rfl⟩
  refine hK.out _ _ (boxes2_of hc hs) (fun hHeld => ?_)
  clear hK K
  try simp only [Act.put, List.getElem_toArray, List.getElem_cons_succ, List.getElem_cons_zero, List.setIfInBounds_toArray, List.set_cons_succ, List.set_cons_zero]
  refine wpAnyH_take (i := 5) (v := ?_) rfl (by kernel_rfl) (by kernel_rfl) (by kernel_rfl) (fun _ _ _ h => h) (Or.inl ⟨rfl, ?_⟩) hHeld ?_
  rotate_left
  · intro w' hS; obtain ⟨s0, s1, s2, s3⟩ := hS; go_simp <;> with_reducible rfl
  simp only [Act.put, List.getElem_toArray, List.getElem_cons_succ, List.getElem_cons_zero, List.setIfInBounds_toArray, List.set_cons_succ, List.set_cons_zero]
  refine wpAnyH_take (i := 6) (v := ?_) rfl (by kernel_rfl) (by kernel_rfl) (by kernel_rfl) (fun _ _ _ h => h) (Or.inl ⟨rfl, ?_⟩) hHeld ?_
  rotate_left
  · intro w' hS; obtain ⟨s0, s1, s2, s3⟩ := hS; go_simp <;> with_reducible rfl
  simp only [Act.put, List.getElem_toArray, List.getElem_cons_succ, List.getElem_cons_zero, List.setIfInBounds_toArray, List.set_cons_succ, List.set_cons_zero]
  refine wpAnyH_take (i := 7) (v := ?_) rfl (by kernel_rfl) (by kernel_rfl) (by kernel_rfl) (fun _ _ _ h => h) (Or.inl ⟨rfl, ?_⟩) hHeld ?_
  rotate_left
  · intro w' hS; obtain ⟨s0, s1, s2, s3⟩ := hS; go_simp <;> with_reducible rfl
  simp only [Act.put, List.getElem_toArray, List.getElem_cons_succ, List.getElem_cons_zero, List.setIfInBounds_toArray, List.set_cons_succ, List.set_cons_zero]
  refine wpAnyH_ready (rs := [8]) (by kernel_rfl) (by simp) (AllReadyH.cons rfl (fun K hK => ?_) AllReadyH.nil)
  go_simp
  try simp only [hwA, hwB]
  rw [HXX.out]
  have hlo := hr.lt
  refine (cuState_own k X b _ hk hX).mono ?_
  rintro e w8 ⟨E, r, rfl, hf, hb⟩
  rw [HE1.out] at hf
  rw [HE2.out]
  replace ht := below_then ht hb ht.size
  replace hc := hc.below hb
  replace hs := hs.below hb
  replace hr := hr.below hb
  replace hB2 := hB2.below hb
  replace hD2 := hD2.below hb
  clear hb
  refine hK.out _ _ (boxes2_of hc hs) (fun hHeld => ?_)
  clear hK K
  try simp only [Act.put, List.getElem_toArray, List.getElem_cons_succ, List.getElem_cons_zero, List.setIfInBounds_toArray, List.set_cons_succ, List.set_cons_zero]
  refine wpAnyH_ready (rs := [9]) (by kernel_rfl) (by simp) (AllReadyH.cons rfl (fun K hK => ?_) AllReadyH.nil)
  refine wp_store_row 33 (.tmp 6) (.tmp 36) rfl (w.heap.size + 1 + 1) #[.slice E (2 * k : Nat) r, .bool (!t)] rfl rfl 33 #[.slice none 0 0, .bool false] hr size_st rfl (by simp [Value.oneCell']) ?_
  have o9 := only_setRow w8 (w.heap.size + 1 + 1) #[.slice E (2 * k : Nat) r, .bool (!t)]
  have r9 := whole_setRow #[.slice E (2 * k : Nat) r, .bool (!t)] hr
  have c9 := o9.whole hc (by omega)
  have s9 := o9.whole hs (by omega)
  have t9 := o9.below ht (by omega)
  have f9 := (hf.only o9 (by omega)).more (lo' := w.heap.size) (by omega) (Nat.le_of_eq o9.size.symm)
  generalize World.setRow w8 (w.heap.size + 1 + 1) #[.slice E (2 * k : Nat) r, .bool (!t)] = w9 at o9 r9 c9 s9 t9 f9 ⊢
  refine hK.out _ _ (boxes2_of c9 s9) (fun hHeld => ?_)
  clear hK K
  try simp only [Act.put, List.getElem_toArray, List.getElem_cons_succ, List.getElem_cons_zero, List.setIfInBounds_toArray, List.set_cons_succ, List.set_cons_zero]
  refine wpAnyH_take (i := 10) (v := ?_) rfl (by kernel_rfl) (by kernel_rfl) (by kernel_rfl) (fun _ _ _ h => h) (Or.inl ⟨rfl, ?_⟩) hHeld ?_
  rotate_left
  · intro w' hS; obtain ⟨s0, s1, s2, s3⟩ := hS; go_simp <;> with_reducible rfl
  simp only [Act.put, List.getElem_toArray, List.getElem_cons_succ, List.getElem_cons_zero, List.setIfInBounds_toArray, List.set_cons_succ, List.set_cons_zero]
  refine wpAnyH_done (by kernel_rfl) ?_ _
  clear hHeld
  obtain ⟨r0, r1, -, -⟩ := r9.two
  clear hc hs hr hB2 hD2 c9 s9 o9
  go_wp2
  refine bodyPost_ret (v := .tuple #[.agg #[.slice E (2 * k) r, .bool (!t)], .bool true]) (by simp [results, Try.results24, go_sem, r0, r1]) rfl ⟨E, r, by rw [HFL.out], f9, t9⟩
end Go.Proofs.Ytkdjdnknhbmliaa

namespace Go.Proofs.Ytkdjdnknhbmliaa
open Go.RowKit

/-- What a call hands back that makes a list of lists and tells whether it did. -/
def BackPost (ls : List (List Int)) (ok : Bool) (w : World) (e : Ending) (w' : World) : Prop :=
  ∃ (A : Option Addr) (n c : Nat) (rs : List RowV), e = .returned (.tuple #[.slice A n c, .bool ok]) ∧ rowNums rs = ls ∧ rs.length = n ∧ FreeGrid w' w.heap.size w'.heap.size A rs ∧ Below w.heap.size w w'
theorem BackPost.no {w w' : World} (h : Below w.heap.size w w') : BackPost [] false w (.returned (.tuple #[.slice none 0 0, .bool false])) w' :=
  ⟨none, 0, 0, [], rfl, rfl, rfl, (Heads.nil w' w.heap.size).free, h⟩
theorem part_lens {w : World} {A : Option Addr} {rs : List RowV} (h : Grid w A rs) : part rs rs.length = ((rowNums rs).map List.length).sum := by
  rw [part_sum]
  have : ∀ ts : List RowV, (∀ r ∈ ts, r.xs.length = r.n) → ts.map RowV.n = (rowNums ts).map List.length := by
    intro ts ht
    simp only [rowNums, List.map_map]
    exact List.map_congr_left fun r hr => (ht r hr).symm
  rw [this rs fun r hr => (h.2 r hr).2.1]
theorem sum_lens {ls : List (List Int)} {k : Nat} (h : ∀ l ∈ ls, l.length ≤ k) : (ls.map List.length).sum ≤ k * ls.length := by
  induction ls with
  | nil => simp
  | cons l ls ih =>
    have h1 := h l (by simp)
    have h2 := ih fun x hx => h x (List.mem_cons_of_mem _ hx)
    rw [List.map_cons, List.sum_cons, List.length_cons, Nat.mul_succ]
    omega
end Go.Proofs.Ytkdjdnknhbmliaa

namespace Go.Proofs.Ytkdjdnknhbmliaa
open Go.RowKit

theorem rows_of_same {k q x : Nat} (h : (!quiet k (bitAt (x / 2)) || rowsSame k q x) = true) (hq : quiet k (bitAt (x / 2)) = true) : (rowsM k q x (2 ^ (2 * k) - 1) 1 []).map listOf = rowsIn k q (bitsOf (x / 2) (2 * k)) (bitAt x 0) := by
  rw [hq, Bool.not_true, Bool.false_or] at h
  exact eq_of_beq h
theorem rows_list {k q : Nat} {bs : List Bool} {t : Bool} (hk1 : 1 ≤ k) (hk : k ≤ 4) (hq1 : 1 ≤ q) (hq4 : q ≤ 4) (hl : bs.length = 2 * k) (hq : quiet k (bitAt (codeOf bs t / 2)) = true) : (rowsM k q (codeOf bs t) (2 ^ (2 * k) - 1) 1 []).map listOf = rowsIn k q bs t := by
  have hx := code_lt bs t
  rw [hl] at hx
  have key : (rowsM k q (codeOf bs t) (2 ^ (2 * k) - 1) 1 []).map listOf = rowsIn k q (bitsOf (codeOf bs t / 2) (2 * k)) (bitAt (codeOf bs t) 0) := by
    obtain ⟨p, rfl⟩ : ∃ p, q = p + 1 := ⟨q - 1, by omega⟩
    refine rows_of_same ?_ hq
    generalize codeOf bs t = x at hx
    obtain rfl | rfl | rfl | rfl : k = 1 ∨ k = 2 ∨ k = 3 ∨ k = 4 := by omega
    · exact List.all_eq_true.1 (List.all_eq_true.1 rows_same1 p (List.mem_range.2 (by omega))) x (List.mem_range.2 (by omega))
    · exact List.all_eq_true.1 (List.all_eq_true.1 rows_same2 p (List.mem_range.2 (by omega))) x (List.mem_range.2 (by omega))
    · exact List.all_eq_true.1 (List.all_eq_true.1 rows_same3 p (List.mem_range.2 (by omega))) x (List.mem_range.2 (by omega))
    · exact List.all_eq_true.1 (List.all_eq_true.1 rows_same4 p (List.mem_range.2 (by omega))) x (List.mem_range.2 (by omega))
  rw [key, bits_back hl, torch_back]
theorem rowsM_mem (k : Nat) (q : Int) (x : Nat) : ∀ (n g : Nat) (out : List Nat), (∀ y ∈ out, y < 256) → g + n ≤ 256 → ∀ y ∈ rowsM k q x n g out, y < 256
  | 0, _, _, h, _ => h
  | n + 1, g, out, h, hg => rowsM_mem k q x n (g + 1) _ (by split; { exact insG_mem h (by omega) }; { exact h }) (by omega)
theorem rowsM_len (k : Nat) (q : Int) (x : Nat) : ∀ (n g : Nat) (out : List Nat), (rowsM k q x n g out).length ≤ out.length + n
  | 0, _, out => Nat.le_refl _
  | n + 1, g, out => by
    rw [rowsM_next]
    refine Nat.le_trans (rowsM_len k q x n (g + 1) _) ?_
    split
    · rw [insG_len]; omega
    · omega
/-- The rows of a state: none where it isn't calm. -/
noncomputable def rowsLs (a b : Int) (bs : List Bool) (t : Bool) : List (List Int) := if calmIn a b bs t then rowsIn a.toNat b.toNat bs t else []
theorem rowsLs_le {a b : Int} {bs : List Bool} {t : Bool} : (rowsLs a b bs t).length ≤ 1048576 ∧ ((rowsLs a b bs t).map List.length).sum ≤ 1048576 := by
  cases h : calmIn a b bs t
  · simp [rowsLs, h]
  · have hp : isPlace a b bs t = true := by
      cases hp : isPlace a b bs t
      · rw [calmIn_no hp] at h; cases h
      · rfl
    obtain ⟨k, rfl, hk1, hk, hb1, hb4, -, -, hl⟩ := place_co hp
    obtain ⟨q, rfl⟩ : ∃ q : Nat, b = q := ⟨b.toNat, by omega⟩
    have hq : quiet k (bitAt (codeOf bs t / 2)) = true := by rw [quiet_code (c := k) (t := t) hl, ← calmIn_yes hp]; exact h
    have hr := rows_list (q := q) hk1 hk (by omega) (by omega) hl hq
    rw [show rowsLs k q bs t = rowsIn k q bs t by simp [rowsLs, h], ← hr]
    have h1 := rowsM_len k q (codeOf bs t) (2 ^ (2 * k) - 1) 1 []
    have hp4 := pow_c hk
    generalize rowsM k q (codeOf bs t) (2 ^ (2 * k) - 1) 1 [] = R at h1
    have h2 := sum_lens (k := 8) (ls := R.map listOf) fun l hl => by obtain ⟨g, -, rfl⟩ := List.mem_map.1 hl; exact listOf_le g
    rw [List.length_map] at h2 ⊢
    simp only [List.length_nil] at h1
    omega

set_option maxHeartbeats 12800000 in
set_option maxRecDepth 100000 in
set_option linter.unusedSimpArgs false in
theorem specRowsOf_any (a b : Int) (B : Option Addr) (m d : Nat) (bs : List Bool) (t : Bool) (w : World) (hB : Holds w B (bits bs)) (hy : bs.length = m) (hm : m ≤ 9223372036854775807) :
    Calls Try.prog 15 #[.agg #[.int .i64 a, .int .i64 b], .agg #[.slice B m d, .bool t]] w (BackPost (rowsLs a b bs t) (calmIn a b bs t) w) := by
  have HY := Lib.hid hy
  have hB2 := (hB.alloc (.cells #[.int .i64 a, .int .i64 b] 31)).alloc (.cells #[.slice B m d, .bool t] 33)
  have hc := (Whole.fresh w 31 #[.int .i64 a, .int .i64 b]).alloc (.cells #[.slice B m d, .bool t] 33)
  have hs := Whole.fresh (w.alloc (.cells #[.int .i64 a, .int .i64 b] 31)) 33 #[.slice B m d, .bool t]
  have ht := below2 w (.cells #[.int .i64 a, .int .i64 b] 31) (.cells #[.slice B m d, .bool t] 33)
  rw [World.size_alloc] at hs
  cases h1 : isPlace a b bs t
  · have hcn := calmIn_no h1
    rw [show rowsLs a b bs t = [] by simp [rowsLs, hcn], hcn]
    have H1 := Lib.hid h1
    clear h1 hy hB hcn
    go_enter Try.func15, Try.ntmps15
    go_wp2_with fail
    refine wp_region_held_drew (S := (Boxes2 w.heap.size (w.heap.size + 1) (.int .i64 a) (.int .i64 b) (.slice B m d) (.bool t))) (by kernel_rfl) (boxes2_of hc.drew hs.drew) (fun hHeld => ?_)
    replace ht := ht.drew
    replace hc := hc.drew
    replace hs := hs.drew
    replace hB2 := hB2.drew
    refine wpAnyH_take (i := 0) (v := ?_) rfl (by kernel_rfl) (by kernel_rfl) (by kernel_rfl) (fun _ _ _ h => h) (Or.inl ⟨rfl, ?_⟩) hHeld ?_
    rotate_left
    · intro w' hS; obtain ⟨s0, s1, s2, s3⟩ := hS; go_simp <;> with_reducible rfl
    simp only [Act.put, List.getElem_toArray, List.getElem_cons_succ, List.getElem_cons_zero, List.setIfInBounds_toArray, List.set_cons_succ, List.set_cons_zero]
    refine wpAnyH_take (i := 1) (v := ?_) rfl (by kernel_rfl) (by kernel_rfl) (by kernel_rfl) (fun _ _ _ h => h) (Or.inl ⟨rfl, ?_⟩) hHeld ?_
    rotate_left
    · intro w' hS; obtain ⟨s0, s1, s2, s3⟩ := hS; go_simp <;> with_reducible rfl
    simp only [Act.put, List.getElem_toArray, List.getElem_cons_succ, List.getElem_cons_zero, List.setIfInBounds_toArray, List.set_cons_succ, List.set_cons_zero]
    refine wpAnyH_ready (rs := [2]) (by kernel_rfl) (by simp) (AllReadyH.cons rfl (fun K hK => ?_) AllReadyH.nil)
    go_simp
    refine (cuIs_any a b B m d bs t _ hB2 HY.out hm).mono ?_
    rintro e w1 ⟨rfl, hb⟩
    rw [H1.out]
    replace ht := below_then ht hb ht.size
    replace hc := hc.below hb
    replace hs := hs.below hb
    replace hB2 := hB2.below hb
    clear hb
    refine hK.out _ _ (boxes2_of hc hs) (fun hHeld => ?_)
    clear hK K
    try simp only [Act.put, List.getElem_toArray, List.getElem_cons_succ, List.getElem_cons_zero, List.setIfInBounds_toArray, List.set_cons_succ, List.set_cons_zero]
    refine wpAnyH_take (i := 3) (v := ?_) rfl (by kernel_rfl) (by kernel_rfl) (by kernel_rfl) (fun _ _ _ h => h) (Or.inl ⟨rfl, ?_⟩) hHeld ?_
    rotate_left
    · intro w' hS; obtain ⟨s0, s1, s2, s3⟩ := hS; go_simp <;> with_reducible rfl
    simp only [Act.put, List.getElem_toArray, List.getElem_cons_succ, List.getElem_cons_zero, List.setIfInBounds_toArray, List.set_cons_succ, List.set_cons_zero]
    refine wpAnyH_take (i := 4) (v := ?_) rfl (by kernel_rfl) (by kernel_rfl) (by kernel_rfl) (fun _ _ _ h => h) (Or.inl ⟨rfl, ?_⟩) hHeld ?_
    rotate_left
    · intro w' hS; obtain ⟨s0, s1, s2, s3⟩ := hS; go_simp <;> with_reducible rfl
    simp only [Act.put, List.getElem_toArray, List.getElem_cons_succ, List.getElem_cons_zero, List.setIfInBounds_toArray, List.set_cons_succ, List.set_cons_zero]
    refine wpAnyH_take (i := 5) (v := undef) rfl (by kernel_rfl) (by kernel_rfl) (by kernel_rfl) (fun _ _ _ h => h) (Or.inr ⟨by simp [Region.wanted, yielded], rfl⟩) hHeld ?_
    simp only [Act.put, List.getElem_toArray, List.getElem_cons_succ, List.getElem_cons_zero, List.setIfInBounds_toArray, List.set_cons_succ, List.set_cons_zero]
    refine wpAnyH_take (i := 6) (v := undef) rfl (by kernel_rfl) (by kernel_rfl) (by kernel_rfl) (fun _ _ _ h => h) (Or.inr ⟨by simp [Region.wanted, yielded], rfl⟩) hHeld ?_
    simp only [Act.put, List.getElem_toArray, List.getElem_cons_succ, List.getElem_cons_zero, List.setIfInBounds_toArray, List.set_cons_succ, List.set_cons_zero]
    refine wpAnyH_take (i := 7) (v := undef) rfl (by kernel_rfl) (by kernel_rfl) (by kernel_rfl) (fun _ _ _ h => h) (Or.inr ⟨by simp [Region.wanted, yielded], rfl⟩) hHeld ?_
    simp only [Act.put, List.getElem_toArray, List.getElem_cons_succ, List.getElem_cons_zero, List.setIfInBounds_toArray, List.set_cons_succ, List.set_cons_zero]
    refine wpAnyH_take (i := 8) (v := undef) rfl (by kernel_rfl) (by kernel_rfl) (by kernel_rfl) (fun _ _ _ h => h) (Or.inr ⟨by simp [Region.wanted, yielded], rfl⟩) hHeld ?_
    simp only [Act.put, List.getElem_toArray, List.getElem_cons_succ, List.getElem_cons_zero, List.setIfInBounds_toArray, List.set_cons_succ, List.set_cons_zero]
    refine wpAnyH_take (i := 9) (v := undef) rfl (by kernel_rfl) (by kernel_rfl) (by kernel_rfl) (fun _ _ _ h => h) (Or.inr ⟨by simp [Region.wanted, yielded], rfl⟩) hHeld ?_
    simp only [Act.put, List.getElem_toArray, List.getElem_cons_succ, List.getElem_cons_zero, List.setIfInBounds_toArray, List.set_cons_succ, List.set_cons_zero]
    refine wpAnyH_take (i := 10) (v := ?_) rfl (by kernel_rfl) (by kernel_rfl) (by kernel_rfl) (fun _ _ _ h => h) (Or.inl ⟨rfl, ?_⟩) hHeld ?_
    rotate_left
    · intro w' hS; obtain ⟨s0, s1, s2, s3⟩ := hS; go_simp <;> with_reducible rfl
    simp only [Act.put, List.getElem_toArray, List.getElem_cons_succ, List.getElem_cons_zero, List.setIfInBounds_toArray, List.set_cons_succ, List.set_cons_zero]
    refine wpAnyH_done (by kernel_rfl) ?_ _
    clear hHeld
    clear hc hs hB2
    go_wp2
    go_ret2
    exact BackPost.no ht
  obtain ⟨k, rfl, hk1, hk, hb1, hb4, -, -, hl⟩ := place_co h1
  have HQ := Lib.hid (quiet_code (c := k) (t := t) hl)
  have HLT := Lib.hid (show codeOf bs t / 2 < 2 ^ (2 * k) by rw [← hl]; exact code_lt bs t)
  have H1 := Lib.hid h1
  have hm8 : m ≤ 8 := by omega
  have hcy := calmIn_yes h1
  cases h2 : quiet k (fun i => bs.getD i false)
  · rw [h2] at hcy
    rw [show rowsLs k b bs t = [] by simp [rowsLs, hcy], hcy]
    have H2 := Lib.hid h2
    clear h1 h2 hcy hy hl hB
    go_enter Try.func15, Try.ntmps15
    go_wp2_with fail
    refine wp_region_held_drew (S := (Boxes2 w.heap.size (w.heap.size + 1) (.int .i64 k) (.int .i64 b) (.slice B m d) (.bool t))) (by kernel_rfl) (boxes2_of hc.drew hs.drew) (fun hHeld => ?_)
    replace ht := ht.drew
    replace hc := hc.drew
    replace hs := hs.drew
    replace hB2 := hB2.drew
    refine wpAnyH_take (i := 0) (v := ?_) rfl (by kernel_rfl) (by kernel_rfl) (by kernel_rfl) (fun _ _ _ h => h) (Or.inl ⟨rfl, ?_⟩) hHeld ?_
    rotate_left
    · intro w' hS; obtain ⟨s0, s1, s2, s3⟩ := hS; go_simp <;> with_reducible rfl
    simp only [Act.put, List.getElem_toArray, List.getElem_cons_succ, List.getElem_cons_zero, List.setIfInBounds_toArray, List.set_cons_succ, List.set_cons_zero]
    refine wpAnyH_take (i := 1) (v := ?_) rfl (by kernel_rfl) (by kernel_rfl) (by kernel_rfl) (fun _ _ _ h => h) (Or.inl ⟨rfl, ?_⟩) hHeld ?_
    rotate_left
    · intro w' hS; obtain ⟨s0, s1, s2, s3⟩ := hS; go_simp <;> with_reducible rfl
    simp only [Act.put, List.getElem_toArray, List.getElem_cons_succ, List.getElem_cons_zero, List.setIfInBounds_toArray, List.set_cons_succ, List.set_cons_zero]
    refine wpAnyH_ready (rs := [2]) (by kernel_rfl) (by simp) (AllReadyH.cons rfl (fun K hK => ?_) AllReadyH.nil)
    go_simp
    refine (cuIs_any k b B m d bs t _ hB2 HY.out hm).mono ?_
    rintro e w1 ⟨rfl, hb⟩
    rw [H1.out]
    replace ht := below_then ht hb ht.size
    replace hc := hc.below hb
    replace hs := hs.below hb
    replace hB2 := hB2.below hb
    clear hb
    refine hK.out _ _ (boxes2_of hc hs) (fun hHeld => ?_)
    clear hK K
    try simp only [Act.put, List.getElem_toArray, List.getElem_cons_succ, List.getElem_cons_zero, List.setIfInBounds_toArray, List.set_cons_succ, List.set_cons_zero]
    refine wpAnyH_take (i := 3) (v := ?_) rfl (by kernel_rfl) (by kernel_rfl) (by kernel_rfl) (fun _ _ _ h => h) (Or.inl ⟨rfl, ?_⟩) hHeld ?_
    rotate_left
    · intro w' hS; obtain ⟨s0, s1, s2, s3⟩ := hS; go_simp <;> with_reducible rfl
    simp only [Act.put, List.getElem_toArray, List.getElem_cons_succ, List.getElem_cons_zero, List.setIfInBounds_toArray, List.set_cons_succ, List.set_cons_zero]
    refine wpAnyH_take (i := 4) (v := ?_) rfl (by kernel_rfl) (by kernel_rfl) (by kernel_rfl) (fun _ _ _ h => h) (Or.inl ⟨rfl, ?_⟩) hHeld ?_
    rotate_left
    · intro w' hS; obtain ⟨s0, s1, s2, s3⟩ := hS; go_simp <;> with_reducible rfl
    simp only [Act.put, List.getElem_toArray, List.getElem_cons_succ, List.getElem_cons_zero, List.setIfInBounds_toArray, List.set_cons_succ, List.set_cons_zero]
    refine wpAnyH_take (i := 5) (v := ?_) rfl (by kernel_rfl) (by kernel_rfl) (by kernel_rfl) (fun _ _ _ h => h) (Or.inl ⟨rfl, ?_⟩) hHeld ?_
    rotate_left
    · intro w' hS; obtain ⟨s0, s1, s2, s3⟩ := hS; go_simp <;> with_reducible rfl
    simp only [Act.put, List.getElem_toArray, List.getElem_cons_succ, List.getElem_cons_zero, List.setIfInBounds_toArray, List.set_cons_succ, List.set_cons_zero]
    refine wpAnyH_take (i := 6) (v := ?_) rfl (by kernel_rfl) (by kernel_rfl) (by kernel_rfl) (fun _ _ _ h => h) (Or.inl ⟨rfl, ?_⟩) hHeld ?_
    rotate_left
    · intro w' hS; obtain ⟨s0, s1, s2, s3⟩ := hS; go_simp <;> with_reducible rfl
    simp only [Act.put, List.getElem_toArray, List.getElem_cons_succ, List.getElem_cons_zero, List.setIfInBounds_toArray, List.set_cons_succ, List.set_cons_zero]
    refine wpAnyH_ready (rs := [7]) (by kernel_rfl) (by simp) (AllReadyH.cons rfl (fun K hK => ?_) AllReadyH.nil)
    go_simp
    refine (cuCode_any B m d bs t _ hB2 HY.out (by omega)).mono ?_
    rintro e w2 ⟨rfl, hb⟩
    replace ht := below_then ht hb ht.size
    replace hc := hc.below hb
    replace hs := hs.below hb
    replace hB2 := hB2.below hb
    clear hb
    refine hK.out _ _ (boxes2_of hc hs) (fun hHeld => ?_)
    clear hK K
    try simp only [Act.put, List.getElem_toArray, List.getElem_cons_succ, List.getElem_cons_zero, List.setIfInBounds_toArray, List.set_cons_succ, List.set_cons_zero]
    refine wpAnyH_ready (rs := [8]) (by kernel_rfl) (by simp) (AllReadyH.cons rfl (fun K hK => ?_) AllReadyH.nil)
    go_simp
    refine (cuQuiet_any k _ b _ (by omega) HLT.out).mono ?_
    rintro e w3 ⟨rfl, hb⟩
    rw [HQ.out, H2.out]
    replace ht := below_then ht hb ht.size
    replace hc := hc.below hb
    replace hs := hs.below hb
    replace hB2 := hB2.below hb
    clear hb
    refine hK.out _ _ (boxes2_of hc hs) (fun hHeld => ?_)
    clear hK K
    try simp only [Act.put, List.getElem_toArray, List.getElem_cons_succ, List.getElem_cons_zero, List.setIfInBounds_toArray, List.set_cons_succ, List.set_cons_zero]
    refine wpAnyH_take (i := 9) (v := ?_) rfl (by kernel_rfl) (by kernel_rfl) (by kernel_rfl) (fun _ _ _ h => h) (Or.inl ⟨rfl, ?_⟩) hHeld ?_
    rotate_left
    · intro w' hS; obtain ⟨s0, s1, s2, s3⟩ := hS; go_simp <;> with_reducible rfl
    simp only [Act.put, List.getElem_toArray, List.getElem_cons_succ, List.getElem_cons_zero, List.setIfInBounds_toArray, List.set_cons_succ, List.set_cons_zero]
    refine wpAnyH_take (i := 10) (v := ?_) rfl (by kernel_rfl) (by kernel_rfl) (by kernel_rfl) (fun _ _ _ h => h) (Or.inl ⟨rfl, ?_⟩) hHeld ?_
    rotate_left
    · intro w' hS; obtain ⟨s0, s1, s2, s3⟩ := hS; go_simp <;> with_reducible rfl
    simp only [Act.put, List.getElem_toArray, List.getElem_cons_succ, List.getElem_cons_zero, List.setIfInBounds_toArray, List.set_cons_succ, List.set_cons_zero]
    refine wpAnyH_done (by kernel_rfl) ?_ _
    clear hHeld
    clear hc hs hB2
    go_wp2
    go_ret2
    exact BackPost.no ht
  have H2 := Lib.hid h2
  rw [h2] at hcy
  have hrl : rowsLs k b bs t = rowsIn k b.toNat bs t := by simp [rowsLs, hcy]
  obtain ⟨q, rfl⟩ : ∃ q : Nat, b = q := ⟨b.toNat, by omega⟩
  rw [Int.toNat_natCast, ← rows_list hk1 hk (by omega) (by omega) hl (by rw [HQ.out, h2])] at hrl
  have hp := pow_c hk
  have hMM := rowsM_mem k q (codeOf bs t) (2 ^ (2 * k) - 1) 1 [] (fun y hy => absurd hy (List.not_mem_nil)) (by omega)
  have hML := rowsM_len k q (codeOf bs t) (2 ^ (2 * k) - 1) 1 []
  obtain ⟨R, hR⟩ : ∃ R, R = rowsM k q (codeOf bs t) (2 ^ (2 * k) - 1) 1 [] := ⟨_, rfl⟩
  rw [← hR] at hrl hMM hML
  rw [hrl, hcy]
  have HR := Lib.hid hR.symm
  have HMM := Lib.hid hMM
  have hR255 : R.length ≤ 255 := by simp at hML; omega
  obtain ⟨i0, hi, hz0, hz1, hz2⟩ := info_parts info_row
  have HI := Lib.hid hi
  have HZ0 := Lib.hid hz0
  have HZ1 := Lib.hid hz1
  have HZ2 := Lib.hid hz2
  clear h1 h2 hcy hy hl hB hrl hp hMM hML hR hi hz0 hz1 hz2
  go_enter Try.func15, Try.ntmps15
  go_wp2_with fail
  refine wp_region_held_drew (S := (Boxes2 w.heap.size (w.heap.size + 1) (.int .i64 k) (.int .i64 q) (.slice B m d) (.bool t))) (by kernel_rfl) (boxes2_of hc.drew hs.drew) (fun hHeld => ?_)
  replace ht := ht.drew
  replace hc := hc.drew
  replace hs := hs.drew
  replace hB2 := hB2.drew
  refine wpAnyH_take (i := 0) (v := ?_) rfl (by kernel_rfl) (by kernel_rfl) (by kernel_rfl) (fun _ _ _ h => h) (Or.inl ⟨rfl, ?_⟩) hHeld ?_
  rotate_left
  · intro w' hS; obtain ⟨s0, s1, s2, s3⟩ := hS; go_simp <;> with_reducible rfl
  simp only [Act.put, List.getElem_toArray, List.getElem_cons_succ, List.getElem_cons_zero, List.setIfInBounds_toArray, List.set_cons_succ, List.set_cons_zero]
  refine wpAnyH_take (i := 1) (v := ?_) rfl (by kernel_rfl) (by kernel_rfl) (by kernel_rfl) (fun _ _ _ h => h) (Or.inl ⟨rfl, ?_⟩) hHeld ?_
  rotate_left
  · intro w' hS; obtain ⟨s0, s1, s2, s3⟩ := hS; go_simp <;> with_reducible rfl
  simp only [Act.put, List.getElem_toArray, List.getElem_cons_succ, List.getElem_cons_zero, List.setIfInBounds_toArray, List.set_cons_succ, List.set_cons_zero]
  refine wpAnyH_ready (rs := [2]) (by kernel_rfl) (by simp) (AllReadyH.cons rfl (fun K hK => ?_) AllReadyH.nil)
  go_simp
  refine (cuIs_any k q B m d bs t _ hB2 HY.out hm).mono ?_
  rintro e w1 ⟨rfl, hb⟩
  rw [H1.out]
  replace ht := below_then ht hb ht.size
  replace hc := hc.below hb
  replace hs := hs.below hb
  replace hB2 := hB2.below hb
  clear hb
  refine hK.out _ _ (boxes2_of hc hs) (fun hHeld => ?_)
  clear hK K
  try simp only [Act.put, List.getElem_toArray, List.getElem_cons_succ, List.getElem_cons_zero, List.setIfInBounds_toArray, List.set_cons_succ, List.set_cons_zero]
  refine wpAnyH_take (i := 3) (v := ?_) rfl (by kernel_rfl) (by kernel_rfl) (by kernel_rfl) (fun _ _ _ h => h) (Or.inl ⟨rfl, ?_⟩) hHeld ?_
  rotate_left
  · intro w' hS; obtain ⟨s0, s1, s2, s3⟩ := hS; go_simp <;> with_reducible rfl
  simp only [Act.put, List.getElem_toArray, List.getElem_cons_succ, List.getElem_cons_zero, List.setIfInBounds_toArray, List.set_cons_succ, List.set_cons_zero]
  refine wpAnyH_take (i := 4) (v := ?_) rfl (by kernel_rfl) (by kernel_rfl) (by kernel_rfl) (fun _ _ _ h => h) (Or.inl ⟨rfl, ?_⟩) hHeld ?_
  rotate_left
  · intro w' hS; obtain ⟨s0, s1, s2, s3⟩ := hS; go_simp <;> with_reducible rfl
  simp only [Act.put, List.getElem_toArray, List.getElem_cons_succ, List.getElem_cons_zero, List.setIfInBounds_toArray, List.set_cons_succ, List.set_cons_zero]
  refine wpAnyH_take (i := 5) (v := ?_) rfl (by kernel_rfl) (by kernel_rfl) (by kernel_rfl) (fun _ _ _ h => h) (Or.inl ⟨rfl, ?_⟩) hHeld ?_
  rotate_left
  · intro w' hS; obtain ⟨s0, s1, s2, s3⟩ := hS; go_simp <;> with_reducible rfl
  simp only [Act.put, List.getElem_toArray, List.getElem_cons_succ, List.getElem_cons_zero, List.setIfInBounds_toArray, List.set_cons_succ, List.set_cons_zero]
  refine wpAnyH_take (i := 6) (v := ?_) rfl (by kernel_rfl) (by kernel_rfl) (by kernel_rfl) (fun _ _ _ h => h) (Or.inl ⟨rfl, ?_⟩) hHeld ?_
  rotate_left
  · intro w' hS; obtain ⟨s0, s1, s2, s3⟩ := hS; go_simp <;> with_reducible rfl
  simp only [Act.put, List.getElem_toArray, List.getElem_cons_succ, List.getElem_cons_zero, List.setIfInBounds_toArray, List.set_cons_succ, List.set_cons_zero]
  refine wpAnyH_ready (rs := [7]) (by kernel_rfl) (by simp) (AllReadyH.cons rfl (fun K hK => ?_) AllReadyH.nil)
  go_simp
  refine (cuCode_any B m d bs t _ hB2 HY.out (by omega)).mono ?_
  rintro e w2 ⟨rfl, hb⟩
  replace ht := below_then ht hb ht.size
  replace hc := hc.below hb
  replace hs := hs.below hb
  replace hB2 := hB2.below hb
  clear hb
  refine hK.out _ _ (boxes2_of hc hs) (fun hHeld => ?_)
  clear hK K
  try simp only [Act.put, List.getElem_toArray, List.getElem_cons_succ, List.getElem_cons_zero, List.setIfInBounds_toArray, List.set_cons_succ, List.set_cons_zero]
  refine wpAnyH_ready (rs := [8]) (by kernel_rfl) (by simp) (AllReadyH.cons rfl (fun K hK => ?_) AllReadyH.nil)
  go_simp
  refine (cuQuiet_any k _ q _ (by omega) HLT.out).mono ?_
  rintro e w3 ⟨rfl, hb⟩
  rw [HQ.out, H2.out]
  replace ht := below_then ht hb ht.size
  replace hc := hc.below hb
  replace hs := hs.below hb
  replace hB2 := hB2.below hb
  clear hb
  refine hK.out _ _ (boxes2_of hc hs) (fun hHeld => ?_)
  clear hK K
  try simp only [Act.put, List.getElem_toArray, List.getElem_cons_succ, List.getElem_cons_zero, List.setIfInBounds_toArray, List.set_cons_succ, List.set_cons_zero]
  refine wpAnyH_take (i := 9) (v := ?_) rfl (by kernel_rfl) (by kernel_rfl) (by kernel_rfl) (fun _ _ _ h => h) (Or.inl ⟨rfl, ?_⟩) hHeld ?_
  rotate_left
  · intro w' hS; obtain ⟨s0, s1, s2, s3⟩ := hS; go_simp <;> with_reducible rfl
  simp only [Act.put, List.getElem_toArray, List.getElem_cons_succ, List.getElem_cons_zero, List.setIfInBounds_toArray, List.set_cons_succ, List.set_cons_zero]
  refine wpAnyH_take (i := 10) (v := ?_) rfl (by kernel_rfl) (by kernel_rfl) (by kernel_rfl) (fun _ _ _ h => h) (Or.inl ⟨rfl, ?_⟩) hHeld ?_
  rotate_left
  · intro w' hS; obtain ⟨s0, s1, s2, s3⟩ := hS; go_simp <;> with_reducible rfl
  simp only [Act.put, List.getElem_toArray, List.getElem_cons_succ, List.getElem_cons_zero, List.setIfInBounds_toArray, List.set_cons_succ, List.set_cons_zero]
  refine wpAnyH_done (by kernel_rfl) ?_ _
  clear hHeld
  go_wp2_with fail
  refine wp_region_held_drew (S := (Boxes2 w.heap.size (w.heap.size + 1) (.int .i64 k) (.int .i64 q) (.slice B m d) (.bool t))) (by kernel_rfl) (boxes2_of hc.drew hs.drew) (fun hHeld => ?_)
  replace ht := ht.drew
  replace hc := hc.drew
  replace hs := hs.drew
  replace hB2 := hB2.drew
  refine wpAnyH_take (i := 0) (v := ?_) rfl (by kernel_rfl) (by kernel_rfl) (by kernel_rfl) (fun _ _ _ h => h) (Or.inl ⟨rfl, ?_⟩) hHeld ?_
  rotate_left
  · intro w' hS; obtain ⟨s0, s1, s2, s3⟩ := hS; go_simp <;> with_reducible rfl
  simp only [Act.put, List.getElem_toArray, List.getElem_cons_succ, List.getElem_cons_zero, List.setIfInBounds_toArray, List.set_cons_succ, List.set_cons_zero]
  refine wpAnyH_take (i := 1) (v := ?_) rfl (by kernel_rfl) (by kernel_rfl) (by kernel_rfl) (fun _ _ _ h => h) (Or.inl ⟨rfl, ?_⟩) hHeld ?_
  rotate_left
  · intro w' hS; obtain ⟨s0, s1, s2, s3⟩ := hS; go_simp <;> with_reducible rfl
  simp only [Act.put, List.getElem_toArray, List.getElem_cons_succ, List.getElem_cons_zero, List.setIfInBounds_toArray, List.set_cons_succ, List.set_cons_zero]
  refine wpAnyH_take (i := 5) (v := ?_) rfl (by kernel_rfl) (by kernel_rfl) (by kernel_rfl) (fun _ _ _ h => h) (Or.inl ⟨rfl, ?_⟩) hHeld ?_
  rotate_left
  · intro w' hS; obtain ⟨s0, s1, s2, s3⟩ := hS; go_simp <;> with_reducible rfl
  simp only [Act.put, List.getElem_toArray, List.getElem_cons_succ, List.getElem_cons_zero, List.setIfInBounds_toArray, List.set_cons_succ, List.set_cons_zero]
  refine wpAnyH_ready (rs := [2]) (by kernel_rfl) (by simp) (AllReadyH.cons rfl (fun K hK => ?_) AllReadyH.nil)
  go_simp
  refine (cuCode_any B m d bs t _ hB2 HY.out (by omega)).mono ?_
  rintro e w2 ⟨rfl, hb⟩
  replace ht := below_then ht hb ht.size
  replace hc := hc.below hb
  replace hs := hs.below hb
  replace hB2 := hB2.below hb
  clear hb
  refine hK.out _ _ (boxes2_of hc hs) (fun hHeld => ?_)
  clear hK K
  try simp only [Act.put, List.getElem_toArray, List.getElem_cons_succ, List.getElem_cons_zero, List.setIfInBounds_toArray, List.set_cons_succ, List.set_cons_zero]
  refine wpAnyH_ready (rs := [3]) (by kernel_rfl) (by simp) (AllReadyH.cons rfl (fun K hK => ?_) AllReadyH.nil)
  go_simp
  refine (cuRows_any k q _ _ hk HLT.out).mono ?_
  rintro e w4 ⟨E, r, rfl, hown, hb⟩
  rw [ofN_len] at hown
  try rw [ofN_len]
  rw [HR.out] at hown
  try rw [HR.out]
  replace ht := below_then ht hb ht.size
  replace hc := hc.below hb
  replace hs := hs.below hb
  replace hB2 := hB2.below hb
  clear hb
  refine hK.out _ _ (boxes2_of hc hs) (fun hHeld => ?_)
  clear hK K
  try simp only [Act.put, List.getElem_toArray, List.getElem_cons_succ, List.getElem_cons_zero, List.setIfInBounds_toArray, List.set_cons_succ, List.set_cons_zero]
  refine wpAnyH_take (i := 4) (v := ?_) rfl (by kernel_rfl) (by kernel_rfl) (by kernel_rfl) (fun _ _ _ h => h) (Or.inl ⟨rfl, ?_⟩) hHeld ?_
  rotate_left
  · intro w' hS; obtain ⟨s0, s1, s2, s3⟩ := hS; go_simp <;> with_reducible rfl
  simp only [Act.put, List.getElem_toArray, List.getElem_cons_succ, List.getElem_cons_zero, List.setIfInBounds_toArray, List.set_cons_succ, List.set_cons_zero]
  refine wpAnyH_done (by kernel_rfl) ?_ _
  clear hHeld
  clear hc hs hB2
  have HHO := Lib.hid (holds_of_own hown)
  have HT := Lib.hid ht
  have hws := ht.size
  clear hown ht
  go_wp2
  go_loopw [6, 25] (fun v i wr => ∃ (y : Nat) (D : Option Addr) (c : Nat) (acc : List RowV), y ≤ R.length ∧ i = .int .i64 y ∧ v = .slice D acc.length c ∧ acc.length = y ∧ rowNums acc = (R.take y).map listOf ∧ Heads wr w4.heap.size D c acc ∧ Below w4.heap.size w4 wr) (fun _ i _ => R.length - (intOf i).toNat)
  case atStart => exact ⟨0, none, 0, [], Nat.zero_le _, rfl, rfl, rfl, rfl, Heads.nil _ _, Below.refl _ _⟩
  case round =>
    obtain ⟨y, D, c, acc, hy0, rfl, rfl, hla, hra, hh, hb⟩ := hrel
    by_cases hlt : y < R.length
    · have hlti : (y : Int) < (R.length : Int) := by omega
      obtain ⟨b1, o1, rfl, hbl1, hcell⟩ := (HHO.out.below hb).look (k := y) (by rw [nums_len, ofN_len]; exact hlt)
      have hcell' : wr.cell? ⟨b1, o1 + y, none⟩ = some (.int .i64 ((R[y] : Nat) : Int)) := by simpa [nums, ofN] using hcell
      have hg := HMM.out _ (List.getElem_mem hlt)
      have hnx : (R.take (y + 1)).map listOf = (R.take y).map listOf ++ [listOf R[y]] := by rw [List.take_succ_eq_append_getElem hlt, List.map_append, List.map_cons, List.map_nil]
      generalize R[y] = g at hcell' hg hnx
      have hgl := listOf_le g
      have HRA := Lib.hid hra
      have HNX := Lib.hid hnx
      have HH := Lib.hid hh
      have HB := Lib.hid hb
      have HLA := Lib.hid hla
      have hbs : w4.heap.size ≤ wr.heap.size := hb.size
      have hacc : acc.length ≤ 255 := by omega
      clear hra hnx hh hb hcell hla
      go_wp2_with fail
      refine (cuList_any g _ hg).mono ?_
      rintro e w3 ⟨A2, q2, rfl, hown2, hb2⟩
      have hbs2 : wr.heap.size ≤ w3.heap.size := hb2.size
      have HOWN := Lib.hid ((HH.out.below hb2).alloc (.cells #[.slice A2 (listOf g).length q2] 40)).1
      have HF := Lib.hid (Fresh.of_own hown2 (Nat.le_refl _))
      have HB2 := Lib.hid hb2
      have HMAX := Lib.hid (show acc.length + 1 ≤ maxLen by unfold maxLen; omega)
      have HBYT := Lib.hid (show (acc.length + 1) * 24 ≤ 140737488355328 by omega)
      have HBASE := Lib.hid (show w4.heap.size ≤ (w3.alloc (.cells #[.slice A2 (listOf g).length q2] 40)).heap.size by simp; omega)
      clear hown2 hb2
      go_wp2_with (at_builtin; refine wpList_append_lies _ rfl (.tmp 29) (.tmp 32) 28 rfl w4.heap.size 40 i0 (.slice none 0 0) 1 24 Try.underlying28 HI.out HZ0.out HZ1.out HZ2.out rfl (by decide) (.slice D acc.length c) acc.length (rowVals acc) rfl HOWN.out ⟨w3.heap.size, 0, none⟩ 1 1 [.slice A2 (listOf g).length q2] rfl rfl (cell_one_new _ _ _) (by simp [Value.oneCell']) (by decide) HMAX.out HBYT.out HBASE.out (w3.heap.size + 1) (by simp) ?_; intro g1 cap w5 hown4 hg4 hat hlt4)
      obtain ⟨A3, q3, hv3, hf3⟩ := HF.out
      simp only [Value.slice.injEq, true_and] at hv3
      obtain ⟨rfl, rfl⟩ := hv3
      have HP2 := Lib.hid (Heads.push (r := ⟨A2, (listOf g).length, q2, listOf g⟩) HH.out hbs HB2.out hf3 rfl (by show (listOf g).length ≤ _; omega) hown4 hg4 hat)
      have HBN := Lib.hid (((below_then HB.out HB2.out hbs).alloc (by omega) (.cells #[.slice A2 (listOf g).length q2] 40)).grown hg4 HBASE.out (fun kk hkk => (HOWN.out.lt kk hkk).1))
      clear hown4 hg4 hat hlt4 hf3
      go_roundw
      case rel => exact ⟨y + 1, some ⟨g1, 0, none⟩, cap, acc ++ [⟨A2, (listOf g).length, q2, listOf g⟩], by omega, by go_num, by simp, by rw [List.length_append, HLA.out]; rfl, by rw [HNX.out, show rowNums (acc ++ [⟨A2, (listOf g).length, q2, listOf g⟩]) = rowNums acc ++ [listOf g] by simp [rowNums], HRA.out], HP2.out, HBN.out⟩
      case measure => simp [intOf]; omega
    · obtain rfl : y = R.length := by omega
      have HH := Lib.hid (hh.raise hws)
      have HRA : Hid (rowNums acc = R.map listOf) := by show _ = _; rw [hra, List.take_length]
      have HBN := Lib.hid (below_then HT.out hb hws)
      clear hh hra hb hla
      go_wp2
      go_ret2
      exact ⟨D, acc.length, c, acc, rfl, HRA.out, rfl, HH.out.free, HBN.out⟩
end Go.Proofs.Ytkdjdnknhbmliaa

namespace Go.Proofs.Ytkdjdnknhbmliaa
open Go.RowKit

/-- Heads of the call's own over rows that lie spread below them. -/
theorem heads_of_spread {w4 wr : World} {lo c : Nat} {A D : Option Addr} {rs : List RowV} (hs : Spread w4 lo A rs) (hb : Below w4.heap.size w4 wr) (ho : wr.ownsRow w4.heap.size 40 1 (.slice D rs.length c) rs.length (rowVals rs)) (hl : lo ≤ w4.heap.size) : Heads wr lo D c rs := by
  obtain ⟨ps, h2, h3, -⟩ := hs
  refine ⟨own_lower ho hl, ps, h2.below hb, fun p hp => ⟨(h3 p hp).1, Nat.le_trans (h3 p hp).2 hb.size⟩, fun a ha p hp => .inr ?_⟩
  subst ha
  exact Nat.le_trans (h3 p hp).2 (ho.lt a.block rfl).1

set_option maxHeartbeats 12800000 in
set_option maxRecDepth 100000 in
set_option linter.unusedSimpArgs false in
theorem implRowsOf_any (a b : Int) (B : Option Addr) (m d0 : Nat) (bs : List Bool) (t : Bool) (w : World) (hB : Holds w B (bits bs)) (hy : bs.length = m) (hm : m ≤ 9223372036854775807) :
    Calls Try.prog 18 #[.agg #[.int .i64 a, .int .i64 b], .agg #[.slice B m d0, .bool t]] w (BackPost (rowsLs a b bs t) (calmIn a b bs t) w) := by
  have HY := Lib.hid hy
  have hB2 := (hB.alloc (.cells #[.int .i64 a, .int .i64 b] 31)).alloc (.cells #[.slice B m d0, .bool t] 33)
  have hc := (Whole.fresh w 31 #[.int .i64 a, .int .i64 b]).alloc (.cells #[.slice B m d0, .bool t] 33)
  have ht := below2 w (.cells #[.int .i64 a, .int .i64 b] 31) (.cells #[.slice B m d0, .bool t] 33)
  clear hy hB
  have hcp := calmPlaceOf_any a b B m d0 bs t _ hB2 HY.out hm
  go_enter Try.func18, Try.ntmps18
  go_wp2_with fail
  refine hcp.mono ?_
  clear hcp
  rintro e w1 ⟨⟨hp1, rfl⟩ | ⟨hp1, rfl⟩, hb⟩
  all_goals
    replace ht := below_then ht hb (by simp; omega)
    replace hc := hc.below hb
    have hlc := hc.lt
    clear hb hB2
  rotate_left
  · have hcn := calmIn_no hp1
    have HF : Hid (rowsLs a b bs t = [] ∧ calmIn a b bs t = false) := ⟨by simp [rowsLs, hcn], hcn⟩
    clear hp1 hcn
    unfold placeCells
    replace ht := ht.alloc ht.size (.cells #[.bool false, .bool false, .bool false, .bool false, .bool false, .bool false, .bool false, .bool false, .bool false] 90)
    replace hc := hc.alloc (.cells #[.bool false, .bool false, .bool false, .bool false, .bool false, .bool false, .bool false, .bool false, .bool false] 90)
    go_upto_region 2 with fail
    generalize w1.alloc (.cells #[.bool false, .bool false, .bool false, .bool false, .bool false, .bool false, .bool false, .bool false, .bool false] 90) = W1 at hc ht ⊢
    clear hc
    go_wp2
    go_ret2
    rw [HF.out.1, HF.out.2]
    exact BackPost.no ht
  obtain ⟨k, rfl, hk1, hk, hb1, hb4, -, -, hl⟩ := place_co hp1
  obtain ⟨q, rfl⟩ : ∃ q : Nat, b = q := ⟨b.toNat, by omega⟩
  have hq4 : q ≤ 4 := by omega
  have HBS := Lib.hid hl
  obtain ⟨f, hf⟩ : ∃ f : Nat → Bool, f = fun i => bs.getD i false := ⟨_, rfl⟩
  have HPL : Hid (placeCells bs t = place9 f t) := by show _ = _; rw [place_nine9, hf]
  have hp := Whole.fresh w1 90 (place9 f t)
  replace ht := ht.alloc ht.size (.cells (place9 f t) 90)
  replace hc := hc.alloc (.cells (place9 f t) 90)
  rw [HPL.out]
  clear hf
  cases h2 : calmIn k q bs t
  · have HF : Hid (rowsLs k q bs t = [] ∧ calmIn k q bs t = false) := ⟨by simp [rowsLs, h2], h2⟩
    clear hp1 h2 hl hp
    unfold place9 at hc ht
    unfold place9
    go_upto_region 2 with fail
    generalize w1.alloc (.cells #[.bool (f 0), .bool (f 1), .bool (f 2), .bool (f 3), .bool (f 4), .bool (f 5), .bool (f 6), .bool (f 7), .bool t] 90) = W1 at hc ht ⊢
    clear hc
    go_wp2
    go_ret2
    rw [HF.out.1, HF.out.2]
    exact BackPost.no ht
  have HF : Hid (rowsLs k q bs t = rowsIn k q bs t ∧ calmIn k q bs t = true) := ⟨by simp [rowsLs, h2], h2⟩
  obtain ⟨gP, hgP⟩ : ∃ g : Nat, g = w1.heap.size := ⟨_, rfl⟩
  rw [← hgP] at hp
  obtain ⟨i0, hi, hz0, hz1, hz2⟩ := info_parts info_row
  have HI := Lib.hid hi
  have HZ0 := Lib.hid hz0
  have HZ1 := Lib.hid hz1
  have HZ2 := Lib.hid hz2
  clear hp1 h2 hl hi hz0 hz1 hz2
  unfold place9 at hc hp ht
  unfold place9
  go_upto_region 5 with fail
  rw [← hgP]
  clear hgP
  generalize w1.alloc (.cells #[.bool (f 0), .bool (f 1), .bool (f 2), .bool (f 3), .bool (f 4), .bool (f 5), .bool (f 6), .bool (f 7), .bool t] 90) = W1 at hc hp ht ⊢
  refine wp_region_held_drew (S := (CIs w.heap.size gP k q f t)) (by kernel_rfl) (cis_of hc.drew hp.drew) (fun hHeld => ?_)
  replace ht := ht.drew
  replace hc := hc.drew
  replace hp := hp.drew
  refine wpAnyH_take (i := 0) (v := ?_) rfl (by kernel_rfl) (by kernel_rfl) (by kernel_rfl) (fun _ _ _ h => h) (Or.inl ⟨rfl, ?_⟩) hHeld ?_
  rotate_left
  · intro w' hS; obtain ⟨⟨s0, s1⟩, ⟨a0, a1, a2, a3, a4, a5, a6, a7⟩, a8⟩ := hS; go_simp <;> with_reducible rfl
  simp only [Act.put, List.getElem_toArray, List.getElem_cons_succ, List.getElem_cons_zero, List.setIfInBounds_toArray, List.set_cons_succ, List.set_cons_zero]
  refine wpAnyH_take (i := 3) (v := ?_) rfl (by kernel_rfl) (by kernel_rfl) (by kernel_rfl) (fun _ _ _ h => h) (Or.inl ⟨rfl, ?_⟩) hHeld ?_
  rotate_left
  · intro w' hS; obtain ⟨⟨s0, s1⟩, ⟨a0, a1, a2, a3, a4, a5, a6, a7⟩, a8⟩ := hS; go_simp <;> with_reducible rfl
  simp only [Act.put, List.getElem_toArray, List.getElem_cons_succ, List.getElem_cons_zero, List.setIfInBounds_toArray, List.set_cons_succ, List.set_cons_zero]
  refine wpAnyH_take (i := 6) (v := ?_) rfl (by kernel_rfl) (by kernel_rfl) (by kernel_rfl) (fun _ _ _ h => h) (Or.inl ⟨rfl, ?_⟩) hHeld ?_
  rotate_left
  · intro w' hS; obtain ⟨⟨s0, s1⟩, ⟨a0, a1, a2, a3, a4, a5, a6, a7⟩, a8⟩ := hS; go_simp <;> with_reducible rfl
  simp only [Act.put, List.getElem_toArray, List.getElem_cons_succ, List.getElem_cons_zero, List.setIfInBounds_toArray, List.set_cons_succ, List.set_cons_zero]
  refine wpAnyH_ready (rs := [1]) (by kernel_rfl) (by simp) (AllReadyH.cons rfl (fun K hK => ?_) AllReadyH.nil)
  go_simp
  refine (companyRiver_any k q _ hk hq4).mono ?_
  rintro e w2 ⟨gG, gC, g1, g3, g4, g, A, c, rfl, hF, hb⟩
  replace ht := below_then ht hb ht.size
  replace hc := hc.below hb
  replace hp := hp.below hb
  clear hb
  have HT2 := Lib.hid ht
  have hfd : ∀ W : World, (Instr.field 96 (.agg (riverCells k gG gC)) 2).run Try.prog W = .ok (rowsFnV gG gC) W := fun _ => by kernel_rfl
  unfold riverCells rowsFnV at hfd
  unfold riverCells rowsFnV
  refine hK.out _ _ (cis_of hc hp) (fun hHeld => ?_)
  clear hK K
  try simp only [Act.put, List.getElem_toArray, List.getElem_cons_succ, List.getElem_cons_zero, List.setIfInBounds_toArray, List.set_cons_succ, List.set_cons_zero]
  refine wpAnyH_take (i := 2) (v := ?_) rfl (by kernel_rfl) (by kernel_rfl) (by kernel_rfl) (fun _ _ _ h => h) (Or.inl ⟨rfl, ?_⟩) hHeld ?_
  rotate_left
  · intro w' hS; obtain ⟨⟨s0, s1⟩, ⟨a0, a1, a2, a3, a4, a5, a6, a7⟩, a8⟩ := hS; go_simp <;> with_reducible rfl
  simp only [Act.put, List.getElem_toArray, List.getElem_cons_succ, List.getElem_cons_zero, List.setIfInBounds_toArray, List.set_cons_succ, List.set_cons_zero]
  refine wpAnyH_ready (rs := [4]) (by kernel_rfl) (by simp) (AllReadyH.cons rfl (fun K hK => ?_) AllReadyH.nil)
  go_simp
  have hrf := rowsFn_any k q gG gC g1 g3 g4 g A c bs t _ hk HBS.out hF
  rw [HPL.out] at hrf
  unfold place9 at hrf
  refine hrf.mono ?_
  clear hrf
  rintro e w4 ⟨A1, c1, rs, rfl, hrn, hM, hb⟩
  have hw24 := hb.size
  replace ht := below_then ht hb ht.size
  replace hc := hc.below hb
  replace hp := hp.below hb
  clear hb
  refine hK.out _ _ (cis_of hc hp) (fun hHeld => ?_)
  clear hK K
  try simp only [Act.put, List.getElem_toArray, List.getElem_cons_succ, List.getElem_cons_zero, List.setIfInBounds_toArray, List.set_cons_succ, List.set_cons_zero]
  refine wpAnyH_take (i := 5) (v := ?_) rfl (by kernel_rfl) (by kernel_rfl) (by kernel_rfl) (fun _ _ _ h => h) (Or.inl ⟨rfl, ?_⟩) hHeld ?_
  rotate_left
  · intro w' hS; obtain ⟨⟨s0, s1⟩, ⟨a0, a1, a2, a3, a4, a5, a6, a7⟩, a8⟩ := hS; go_simp <;> with_reducible rfl
  simp only [Act.put, List.getElem_toArray, List.getElem_cons_succ, List.getElem_cons_zero, List.setIfInBounds_toArray, List.set_cons_succ, List.set_cons_zero]
  refine wpAnyH_done (by kernel_rfl) ?_ _
  clear hHeld
  clear hc hp hF
  have HM := Lib.hid hM
  have HRN := Lib.hid hrn
  have hrl : rs.length ≤ 255 := by have h1 := congrArg List.length hrn; have h2 := among_len k bs t (groupsOf k q); have h3 := groups_small (q := q) hk; rw [rowNums_len] at h1; rw [rowsIn] at h1; omega
  have HT := Lib.hid ht
  have hws := ht.size
  have HWS : Hid (w.heap.size ≤ w2.heap.size) := HT2.out.size
  clear hM hrn ht
  go_wp2
  go_loopw [8, 25] (fun v i wr => ∃ (j : Nat) (D : Option Addr) (c : Nat), j ≤ rs.length ∧ i = .int .i64 j ∧ v = .slice D j c ∧ wr.ownsRow w4.heap.size 40 1 (.slice D j c) j (rowVals (rs.take j)) ∧ Below w4.heap.size w4 wr) (fun _ i _ => rs.length - (intOf i).toNat)
  case atStart => exact ⟨0, none, 0, Nat.zero_le _, rfl, rfl, World.ownsRow_nil _ _ _ _, Below.refl _ _⟩
  case round =>
    obtain ⟨j, D, c, hj, rfl, rfl, hown, hb⟩ := hrel
    by_cases hlt : j < rs.length
    · have hd : decide ((j : Int) < (rs.length : Int)) = true := by simp; omega
      obtain ⟨gm, rfl, hgl, a0, a1, a2, a3, a4, a5, a6, a7, a8, a9⟩ := moves_row (HM.out.below hb) hlt
      obtain ⟨f', hf'⟩ : ∃ f' : Nat → Bool, f' = fun i => (flipped bs rs[j].xs).getD i false := ⟨_, rfl⟩
      replace a1 : wr.cell? ⟨gm, j * 10 + 1, none⟩ = some (.bool (f' 0)) := by rw [a1, hf']
      replace a2 : wr.cell? ⟨gm, j * 10 + 2, none⟩ = some (.bool (f' 1)) := by rw [a2, hf']
      replace a3 : wr.cell? ⟨gm, j * 10 + 3, none⟩ = some (.bool (f' 2)) := by rw [a3, hf']
      replace a4 : wr.cell? ⟨gm, j * 10 + 4, none⟩ = some (.bool (f' 3)) := by rw [a4, hf']
      replace a5 : wr.cell? ⟨gm, j * 10 + 5, none⟩ = some (.bool (f' 4)) := by rw [a5, hf']
      replace a6 : wr.cell? ⟨gm, j * 10 + 6, none⟩ = some (.bool (f' 5)) := by rw [a6, hf']
      replace a7 : wr.cell? ⟨gm, j * 10 + 7, none⟩ = some (.bool (f' 6)) := by rw [a7, hf']
      replace a8 : wr.cell? ⟨gm, j * 10 + 8, none⟩ = some (.bool (f' 7)) := by rw [a8, hf']
      have hnx : rowVals (rs.take (j + 1)) = rowVals (rs.take j) ++ [rs[j].val] := by
        unfold rowVals
        rw [List.take_succ_eq_append_getElem hlt, List.map_append, List.map_cons, List.map_nil]
      have HNX := Lib.hid hnx
      clear hf' hnx
      generalize rs[j] = r at a0 HNX
      obtain ⟨rA, rn, rc, rx⟩ := r
      unfold RowV.val at a0 HNX
      simp only at a0 HNX
      have hbs := hb.size
      obtain ⟨X, hX⟩ : ∃ X : Obj, X = (.cells #[.slice rA rn rc, .bool (f' 0), .bool (f' 1), .bool (f' 2), .bool (f' 3), .bool (f' 4), .bool (f' 5), .bool (f' 6), .bool (f' 7), .bool (!t)] 99) := ⟨_, rfl⟩
      have HOWN := Lib.hid ((own_keep hown (below1 wr X)).alloc (.cells #[.slice rA rn rc] 40))
      have HB := Lib.hid (hb.alloc hbs X)
      have HMAX := Lib.hid (show j + 1 ≤ maxLen by unfold maxLen; omega)
      have HBYT := Lib.hid (show (j + 1) * 24 ≤ 140737488355328 by omega)
      have HBASE := Lib.hid (show w4.heap.size ≤ ((wr.alloc X).alloc (.cells #[.slice rA rn rc] 40)).heap.size by simp; omega)
      have HB2 := Lib.hid (HB.out.alloc (by simp; omega) (.cells #[.slice rA rn rc] 40))
      have hcn := cell_one_new (wr.alloc X) (.slice rA rn rc) 40
      rw [World.size_alloc] at hcn
      have HCN := Lib.hid hcn
      clear hcn
      subst hX
      clear hown hb
      go_wp2_with (at_builtin; refine wpList_append_lies _ rfl (.tmp 29) (.tmp 32) 28 rfl w4.heap.size 40 i0 (.slice none 0 0) 1 24 Try.underlying28 HI.out HZ0.out HZ1.out HZ2.out rfl (by decide) (.slice D j c) j (rowVals (rs.take j)) rfl HOWN.out ⟨wr.heap.size + 1, 0, none⟩ 1 1 [.slice rA rn rc] rfl rfl HCN.out (by simp [Value.oneCell']) (by decide) HMAX.out HBYT.out HBASE.out (wr.heap.size + 1 + 1) (by simp) ?_; intro g1 cap w5 hown4 hg4 hat hlt4)
      have HBN := Lib.hid (HB2.out.grown hg4 HBASE.out (fun kk hkk => (HOWN.out.lt kk hkk).1))
      have HO4 := Lib.hid hown4
      clear hown4 hg4 hat hlt4 a0 a1 a2 a3 a4 a5 a6 a7 a8 a9
      go_roundw
      case rel => exact ⟨j + 1, some ⟨g1, 0, none⟩, cap, by omega, by go_num, rfl, by rw [HNX.out]; exact HO4.out, HBN.out⟩
      case measure => simp [intOf]; omega
    · obtain rfl : j = rs.length := by omega
      have hd : decide ((rs.length : Int) < (rs.length : Int)) = false := by simp
      rw [List.take_length] at hown
      have HH := Lib.hid ((heads_of_spread HM.out.2 hb hown hw24).raise HWS.out)
      have HBN := Lib.hid (below_then HT.out hb hws)
      clear hown hb
      go_wp2
      go_ret2
      rw [HF.out.1, HF.out.2]
      exact ⟨D, rs.length, c, rs, rfl, HRN.out, rfl, HH.out.free, HBN.out⟩
end Go.Proofs.Ytkdjdnknhbmliaa
