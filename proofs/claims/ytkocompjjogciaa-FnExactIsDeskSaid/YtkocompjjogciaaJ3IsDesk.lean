/-
  What is proved: the law FnExactIsDesk returns true at every argument, and leaves all that was there as it was. Conditions: the arguments are read as they lie.
-/
import Derived.Deep.RegionHeld3
import Derived.Test.YtkocompjjogciaaJ2IsDesk
set_option linter.unusedSimpArgs false
set_option linter.unusedVariables false
namespace Go.Proofs.Ytkocompjjogciaa
open Go.RowKit

set_option maxHeartbeats 3200000 in
set_option maxRecDepth 100000 in
set_option linter.unusedVariables false in
set_option linter.unusedSimpArgs false in
theorem lawIsDesk_big (A : Option Addr) (n c : Nat) (xs : List Int) (s : Int) (B : Option Addr) (m d : Nat) (bs : List Bool) (t : Bool) (k : Int) (G : Option Addr) (gn gc : Nat) (rs : List RowV) (q : Int) (C : Option Addr) (cn cc : Nat) (ys : List Int) (D : Option Addr) (dn dc : Nat) (ds : List Bool) (p : Int) (w : World) (hin : DeskIn w A xs B bs G rs C ys D ds) (hx : xs.length = n) (hy : bs.length = m) (hz : rs.length = gn) (hv : ys.length = cn) (hu : ds.length = dn) (hn : n ≤ 9223372036854775807) (hm : m ≤ 9223372036854775807) (hgn : gn ≤ 9223372036854775807) (hcn : cn ≤ 9223372036854775807) (hdn : dn ≤ 9223372036854775807) (hbig : (1048576 : Int) - n - m - (total rs : Nat) - cn - dn < 0) :
    Calls Try.prog 3 #[.agg #[.slice A n c, .int .i64 s, .slice B m d, .bool t, .int .i64 k, .slice G gn gc, .int .i64 q, .slice C cn cc, .slice D dn dc, .int .i64 p]] w fun e w' => e = .returned (.bool true) ∧ Below w.heap.size w w' := by
  have HIN := Lib.hid hin
  have HX := Lib.hid hx
  have HY := Lib.hid hy
  have HZ := Lib.hid hz
  have HV := Lib.hid hv
  have HU := Lib.hid hu
  have hb0 := Whole.fresh w 34 #[.slice A n c, .int .i64 s, .slice B m d, .bool t, .int .i64 k, .slice G gn gc, .int .i64 q, .slice C cn cc, .slice D dn dc, .int .i64 p]
  have ht := below1 w (.cells #[.slice A n c, .int .i64 s, .slice B m d, .bool t, .int .i64 k, .slice G gn gc, .int .i64 q, .slice C cn cc, .slice D dn dc, .int .i64 p] 34)
  clear hin hx hy hz hv hu
  have k0 := hb0.cell 0
  have k1 := hb0.cell 1
  have k2 := hb0.cell 2
  have k3 := hb0.cell 3
  have k4 := hb0.cell 4
  have k5 := hb0.cell 5
  have k6 := hb0.cell 6
  have k7 := hb0.cell 7
  have k8 := hb0.cell 8
  have k9 := hb0.cell 9
  have kl := hb0.lt
  go_enter Try.func3, Try.ntmps3
  go_wp2_with fail
  refine (szDesk_any A n c s B m d t k G gn gc rs q C cn cc D dn dc p _ (HIN.out.below ht).g HZ.out hn hm hgn hcn hdn).mono ?_
  rintro e v1 ⟨rfl, hb⟩
  rw [deskLeft, if_pos (by omega)]
  replace ht := below_then ht hb ht.size
  replace hb0 := hb0.below hb
  clear hb k0 k1 k2 k3 k4 k5 k6 k7 k8 k9 kl
  go_wp2
  go_ret
  exact ⟨rfl, ht⟩

set_option maxHeartbeats 12800000 in
set_option maxRecDepth 100000 in
set_option linter.unusedVariables false in
set_option linter.unusedSimpArgs false in
theorem lawIsDesk_small (A : Option Addr) (n c : Nat) (xs : List Int) (s : Int) (B : Option Addr) (m d : Nat) (bs : List Bool) (t : Bool) (k : Int) (G : Option Addr) (gn gc : Nat) (rs : List RowV) (q : Int) (C : Option Addr) (cn cc : Nat) (ys : List Int) (D : Option Addr) (dn dc : Nat) (ds : List Bool) (p : Int) (w : World) (hin : DeskIn w A xs B bs G rs C ys D ds) (hx : xs.length = n) (hy : bs.length = m) (hz : rs.length = gn) (hv : ys.length = cn) (hu : ds.length = dn) (hn : n ≤ 9223372036854775807) (hm : m ≤ 9223372036854775807) (hgn : gn ≤ 9223372036854775807) (hcn : cn ≤ 9223372036854775807) (hdn : dn ≤ 9223372036854775807) (hsm : 0 ≤ (1048576 : Int) - n - m - (total rs : Nat) - cn - dn) :
    Calls Try.prog 3 #[.agg #[.slice A n c, .int .i64 s, .slice B m d, .bool t, .int .i64 k, .slice G gn gc, .int .i64 q, .slice C cn cc, .slice D dn dc, .int .i64 p]] w fun e w' => e = .returned (.bool true) ∧ Below w.heap.size w w' := by
  have HIN := Lib.hid hin
  have HX := Lib.hid hx
  have HY := Lib.hid hy
  have HZ := Lib.hid hz
  have HV := Lib.hid hv
  have HU := Lib.hid hu
  have hb0 := Whole.fresh w 34 #[.slice A n c, .int .i64 s, .slice B m d, .bool t, .int .i64 k, .slice G gn gc, .int .i64 q, .slice C cn cc, .slice D dn dc, .int .i64 p]
  have ht := below1 w (.cells #[.slice A n c, .int .i64 s, .slice B m d, .bool t, .int .i64 k, .slice G gn gc, .int .i64 q, .slice C cn cc, .slice D dn dc, .int .i64 p] 34)
  clear hin hx hy hz hv hu
  have k0 := hb0.cell 0
  have k1 := hb0.cell 1
  have k2 := hb0.cell 2
  have k3 := hb0.cell 3
  have k4 := hb0.cell 4
  have k5 := hb0.cell 5
  have k6 := hb0.cell 6
  have k7 := hb0.cell 7
  have k8 := hb0.cell 8
  have k9 := hb0.cell 9
  have kl := hb0.lt
  go_enter Try.func3, Try.ntmps3
  go_wp2_with fail
  refine (szDesk_any A n c s B m d t k G gn gc rs q C cn cc D dn dc p _ (HIN.out.below ht).g HZ.out hn hm hgn hcn hdn).mono ?_
  rintro e v1 ⟨rfl, hb⟩
  rw [deskLeft, if_neg (by omega)]
  replace ht := below_then ht hb ht.size
  replace hb0 := hb0.below hb
  clear hb k0 k1 k2 k3 k4 k5 k6 k7 k8 k9 kl
  have hcap : gn ≤ 1048576 := by have := total_len rs; have := HZ.out; omega
  have k0 := hb0.cell 0
  have k1 := hb0.cell 1
  have k2 := hb0.cell 2
  have k3 := hb0.cell 3
  have k4 := hb0.cell 4
  have k5 := hb0.cell 5
  have k6 := hb0.cell 6
  have k7 := hb0.cell 7
  have k8 := hb0.cell 8
  have k9 := hb0.cell 9
  have kl := hb0.lt
  go_wp2_with fail
  refine (toDesk_own A n c s B m d t k G gn gc rs q C cn cc D dn dc p xs bs ys ds _ (HIN.out.below ht) HX.out HY.out HZ.out HV.out HU.out (by omega) (by omega) (by omega) (by omega) (by omega)).mono ?_
  rintro e v2 ⟨gpA, gpB, gpG, gpC, gpD, wsp, rfl, hinp, hep, hlp, hb⟩
  have HEp := Lib.hid hep
  have HLp := Lib.hid hlp
  clear hep hlp
  replace ht := below_then ht hb ht.size
  replace hb0 := hb0.below hb
  clear hb k0 k1 k2 k3 k4 k5 k6 k7 k8 k9 kl
  have k0 := hb0.cell 0
  have k1 := hb0.cell 1
  have k2 := hb0.cell 2
  have k3 := hb0.cell 3
  have k4 := hb0.cell 4
  have k5 := hb0.cell 5
  have k6 := hb0.cell 6
  have k7 := hb0.cell 7
  have k8 := hb0.cell 8
  have k9 := hb0.cell 9
  have kl := hb0.lt
  go_wp2_with fail
  refine (specDesk_any (some ⟨gpA, 0, none⟩) n n xs s (some ⟨gpB, 0, none⟩) m m bs t k (some ⟨gpG, 0, none⟩) gn gn wsp q (some ⟨gpC, 0, none⟩) cn cn ys (some ⟨gpD, 0, none⟩) dn dn p _ hinp.a hinp.b hinp.g hinp.c HX.out HY.out HLp.out HV.out (by omega) (by omega) (by omega) (by omega)).mono ?_
  rintro e v3 ⟨rfl, hb⟩
  rw [HEp.out]
  replace ht := below_then ht hb ht.size
  replace hb0 := hb0.below hb
  clear hb hinp k0 k1 k2 k3 k4 k5 k6 k7 k8 k9 kl
  have k0 := hb0.cell 0
  have k1 := hb0.cell 1
  have k2 := hb0.cell 2
  have k3 := hb0.cell 3
  have k4 := hb0.cell 4
  have k5 := hb0.cell 5
  have k6 := hb0.cell 6
  have k7 := hb0.cell 7
  have k8 := hb0.cell 8
  have k9 := hb0.cell 9
  have kl := hb0.lt
  go_wp2_with fail
  refine (toDesk_own A n c s B m d t k G gn gc rs q C cn cc D dn dc p xs bs ys ds _ (HIN.out.below ht) HX.out HY.out HZ.out HV.out HU.out (by omega) (by omega) (by omega) (by omega) (by omega)).mono ?_
  rintro e v4 ⟨gxA, gxB, gxG, gxC, gxD, wsx, rfl, hinx, hex, hlx, hb⟩
  have HEx := Lib.hid hex
  have HLx := Lib.hid hlx
  clear hex hlx
  replace ht := below_then ht hb ht.size
  replace hb0 := hb0.below hb
  clear hb k0 k1 k2 k3 k4 k5 k6 k7 k8 k9 kl
  have hx9 := Whole.fresh v4 42 #[.slice (some ⟨gxA, 0, none⟩) n n, .int .i64 s, .slice (some ⟨gxB, 0, none⟩) m m, .bool t, .int .i64 k, .slice (some ⟨gxG, 0, none⟩) gn gn, .int .i64 q, .slice (some ⟨gxC, 0, none⟩) cn cn, .slice (some ⟨gxD, 0, none⟩) dn dn, .int .i64 p]
  replace ht := ht.alloc ht.size (.cells #[.slice (some ⟨gxA, 0, none⟩) n n, .int .i64 s, .slice (some ⟨gxB, 0, none⟩) m m, .bool t, .int .i64 k, .slice (some ⟨gxG, 0, none⟩) gn gn, .int .i64 q, .slice (some ⟨gxC, 0, none⟩) cn cn, .slice (some ⟨gxD, 0, none⟩) dn dn, .int .i64 p] 42)
  replace hb0 := hb0.alloc (.cells #[.slice (some ⟨gxA, 0, none⟩) n n, .int .i64 s, .slice (some ⟨gxB, 0, none⟩) m m, .bool t, .int .i64 k, .slice (some ⟨gxG, 0, none⟩) gn gn, .int .i64 q, .slice (some ⟨gxC, 0, none⟩) cn cn, .slice (some ⟨gxD, 0, none⟩) dn dn, .int .i64 p] 42)
  replace hinx := hinx.below (below1 v4 (.cells #[.slice (some ⟨gxA, 0, none⟩) n n, .int .i64 s, .slice (some ⟨gxB, 0, none⟩) m m, .bool t, .int .i64 k, .slice (some ⟨gxG, 0, none⟩) gn gn, .int .i64 q, .slice (some ⟨gxC, 0, none⟩) cn cn, .slice (some ⟨gxD, 0, none⟩) dn dn, .int .i64 p] 42))
  have k0 := hb0.cell 0
  have k1 := hb0.cell 1
  have k2 := hb0.cell 2
  have k3 := hb0.cell 3
  have k4 := hb0.cell 4
  have k5 := hb0.cell 5
  have k6 := hb0.cell 6
  have k7 := hb0.cell 7
  have k8 := hb0.cell 8
  have k9 := hb0.cell 9
  have kl := hb0.lt
  have j0 := hx9.cell 0
  have j1 := hx9.cell 1
  have j2 := hx9.cell 2
  have j3 := hx9.cell 3
  have j4 := hx9.cell 4
  have j5 := hx9.cell 5
  have j6 := hx9.cell 6
  have j7 := hx9.cell 7
  have j8 := hx9.cell 8
  have j9 := hx9.cell 9
  have jl := hx9.lt
  go_wp2_with fail
  refine (implDesk_any (some ⟨gxA, 0, none⟩) n n xs s (some ⟨gxB, 0, none⟩) m m bs t k (some ⟨gxG, 0, none⟩) gn gn wsx q (some ⟨gxC, 0, none⟩) cn cn ys (some ⟨gxD, 0, none⟩) dn dn p _ hinx.a hinx.b hinx.g hinx.c HX.out HY.out HLx.out HV.out (by omega) (by omega) (by omega) (by omega)).mono ?_
  rintro e v5 ⟨rfl, hb⟩
  rw [HEx.out]
  replace ht := below_then ht hb ht.size
  replace hb0 := hb0.below hb
  replace hx9 := hx9.below hb
  replace hinx := hinx.below hb
  clear hb k0 k1 k2 k3 k4 k5 k6 k7 k8 k9 kl j0 j1 j2 j3 j4 j5 j6 j7 j8 j9 jl
  go_wp2_with fail
  refine wp_region_held_drew (S := (fun w' => Whole w' w.heap.size 34 #[.slice A n c, .int .i64 s, .slice B m d, .bool t, .int .i64 k, .slice G gn gc, .int .i64 q, .slice C cn cc, .slice D dn dc, .int .i64 p] ∧ Whole w' v4.heap.size 42 #[.slice (some ⟨gxA, 0, none⟩) n n, .int .i64 s, .slice (some ⟨gxB, 0, none⟩) m m, .bool t, .int .i64 k, .slice (some ⟨gxG, 0, none⟩) gn gn, .int .i64 q, .slice (some ⟨gxC, 0, none⟩) cn cn, .slice (some ⟨gxD, 0, none⟩) dn dn, .int .i64 p])) (by kernel_rfl) ⟨hb0.drew, hx9.drew⟩ (fun hHeld => ?_)
  replace ht := ht.drew
  replace hb0 := hb0.drew
  replace hx9 := hx9.drew
  replace hinx := hinx.below (Below.refl _ _).drew
  refine wpAnyH_take (i := 0) (v := ?_) rfl (by kernel_rfl) (by kernel_rfl) (by kernel_rfl) (fun _ _ _ h => h) (Or.inl ⟨rfl, ?_⟩) hHeld ?_
  rotate_left
  · intro w' hS; obtain ⟨s1, s2⟩ := hS; have a0 := s1.cell 0; have a1 := s1.cell 1; have a2 := s1.cell 2; have a3 := s1.cell 3; have a4 := s1.cell 4; have a5 := s1.cell 5; have a6 := s1.cell 6; have a7 := s1.cell 7; have a8 := s1.cell 8; have a9 := s1.cell 9; have al := s1.lt; have b0 := s2.cell 0; have b1 := s2.cell 1; have b2 := s2.cell 2; have b3 := s2.cell 3; have b4 := s2.cell 4; have b5 := s2.cell 5; have b6 := s2.cell 6; have b7 := s2.cell 7; have b8 := s2.cell 8; have b9 := s2.cell 9; have bl := s2.lt; go_simp <;> with_reducible rfl
  simp only [Act.put, List.getElem_toArray, List.getElem_cons_succ, List.getElem_cons_zero, List.setIfInBounds_toArray, List.set_cons_succ, List.set_cons_zero]
  refine wpAnyH_take (i := 1) (v := ?_) rfl (by kernel_rfl) (by kernel_rfl) (by kernel_rfl) (fun _ _ _ h => h) (Or.inl ⟨rfl, ?_⟩) hHeld ?_
  rotate_left
  · intro w' hS; obtain ⟨s1, s2⟩ := hS; have a0 := s1.cell 0; have a1 := s1.cell 1; have a2 := s1.cell 2; have a3 := s1.cell 3; have a4 := s1.cell 4; have a5 := s1.cell 5; have a6 := s1.cell 6; have a7 := s1.cell 7; have a8 := s1.cell 8; have a9 := s1.cell 9; have al := s1.lt; have b0 := s2.cell 0; have b1 := s2.cell 1; have b2 := s2.cell 2; have b3 := s2.cell 3; have b4 := s2.cell 4; have b5 := s2.cell 5; have b6 := s2.cell 6; have b7 := s2.cell 7; have b8 := s2.cell 8; have b9 := s2.cell 9; have bl := s2.lt; go_simp <;> with_reducible rfl
  simp only [Act.put, List.getElem_toArray, List.getElem_cons_succ, List.getElem_cons_zero, List.setIfInBounds_toArray, List.set_cons_succ, List.set_cons_zero]
  refine wpAnyH_ready (rs := [2]) (by kernel_rfl) (by simp) (AllReadyH.cons rfl (fun K hK => ?_) AllReadyH.nil)
  go_simp
  refine (toDesk_own A n c s B m d t k G gn gc rs q C cn cc D dn dc p xs bs ys ds _ (HIN.out.below ht) HX.out HY.out HZ.out HV.out HU.out (by omega) (by omega) (by omega) (by omega) (by omega)).mono ?_
  rintro e vda ⟨gyA, gyB, gyG, gyC, gyD, wsy, rfl, hiny, hey, hly, hb⟩
  have HEy := Lib.hid hey
  have HLy := Lib.hid hly
  clear hey hly
  replace ht := below_then ht hb ht.size
  replace hb0 := hb0.below hb
  replace hx9 := hx9.below hb
  replace hinx := hinx.below hb
  clear hb
  refine hK.out _ _ ⟨hb0, hx9⟩ (fun hHeld => ?_)
  clear hK K
  try simp only [Act.put, List.getElem_toArray, List.getElem_cons_succ, List.getElem_cons_zero, List.setIfInBounds_toArray, List.set_cons_succ, List.set_cons_zero]
  refine wpAnyH_ready (rs := [3]) (by kernel_rfl) (by simp) (AllReadyH.cons rfl (fun K hK => ?_) AllReadyH.nil)
  go_simp
  refine (eqDesk_yes (some ⟨gxA, 0, none⟩) n n s (some ⟨gxB, 0, none⟩) m m t k (some ⟨gxG, 0, none⟩) gn gn wsx q (some ⟨gxC, 0, none⟩) cn cn (some ⟨gxD, 0, none⟩) dn dn p xs bs ys ds (some ⟨gyA, 0, none⟩) (some ⟨gyB, 0, none⟩) (some ⟨gyG, 0, none⟩) (some ⟨gyC, 0, none⟩) (some ⟨gyD, 0, none⟩) n m gn cn dn wsy _ hinx hiny (by rw [HEx.out, HEy.out]) HX.out HY.out HLx.out HLy.out HV.out HU.out (by omega) (by omega) (by omega) (by omega) (by omega)).mono ?_
  rintro e vdab ⟨rfl, hb⟩
  replace ht := below_then ht hb ht.size
  replace hb0 := hb0.below hb
  replace hx9 := hx9.below hb
  replace hinx := hinx.below hb
  clear hb hiny
  refine hK.out _ _ ⟨hb0, hx9⟩ (fun hHeld => ?_)
  clear hK K
  try simp only [Act.put, List.getElem_toArray, List.getElem_cons_succ, List.getElem_cons_zero, List.setIfInBounds_toArray, List.set_cons_succ, List.set_cons_zero]
  refine wpAnyH_take (i := 4) (v := ?_) rfl (by kernel_rfl) (by kernel_rfl) (by kernel_rfl) (fun _ _ _ h => h) (Or.inl ⟨rfl, ?_⟩) hHeld ?_
  rotate_left
  · intro w' hS; obtain ⟨s1, s2⟩ := hS; have a0 := s1.cell 0; have a1 := s1.cell 1; have a2 := s1.cell 2; have a3 := s1.cell 3; have a4 := s1.cell 4; have a5 := s1.cell 5; have a6 := s1.cell 6; have a7 := s1.cell 7; have a8 := s1.cell 8; have a9 := s1.cell 9; have al := s1.lt; have b0 := s2.cell 0; have b1 := s2.cell 1; have b2 := s2.cell 2; have b3 := s2.cell 3; have b4 := s2.cell 4; have b5 := s2.cell 5; have b6 := s2.cell 6; have b7 := s2.cell 7; have b8 := s2.cell 8; have b9 := s2.cell 9; have bl := s2.lt; go_simp <;> with_reducible rfl
  simp only [Act.put, List.getElem_toArray, List.getElem_cons_succ, List.getElem_cons_zero, List.setIfInBounds_toArray, List.set_cons_succ, List.set_cons_zero]
  refine wpAnyH_done (by kernel_rfl) ?_ _
  clear hHeld
  go_wp2
  go_ret
  exact ⟨rfl, ht⟩
theorem lawIsDesk_all (A : Option Addr) (n c : Nat) (xs : List Int) (s : Int) (B : Option Addr) (m d : Nat) (bs : List Bool) (t : Bool) (k : Int) (G : Option Addr) (gn gc : Nat) (rs : List RowV) (q : Int) (C : Option Addr) (cn cc : Nat) (ys : List Int) (D : Option Addr) (dn dc : Nat) (ds : List Bool) (p : Int) (w : World) (hin : DeskIn w A xs B bs G rs C ys D ds) (hx : xs.length = n) (hy : bs.length = m) (hz : rs.length = gn) (hv : ys.length = cn) (hu : ds.length = dn) (hn : n ≤ 9223372036854775807) (hm : m ≤ 9223372036854775807) (hgn : gn ≤ 9223372036854775807) (hcn : cn ≤ 9223372036854775807) (hdn : dn ≤ 9223372036854775807) :
    Calls Try.prog 3 #[.agg #[.slice A n c, .int .i64 s, .slice B m d, .bool t, .int .i64 k, .slice G gn gc, .int .i64 q, .slice C cn cc, .slice D dn dc, .int .i64 p]] w fun e w' => e = .returned (.bool true) ∧ Below w.heap.size w w' := by
  by_cases h : (1048576 : Int) - n - m - (total rs : Nat) - cn - dn < 0
  · exact lawIsDesk_big A n c xs s B m d bs t k G gn gc rs q C cn cc ys D dn dc ds p w hin hx hy hz hv hu hn hm hgn hcn hdn h
  · exact lawIsDesk_small A n c xs s B m d bs t k G gn gc rs q C cn cc ys D dn dc ds p w hin hx hy hz hv hu hn hm hgn hcn hdn (by omega)
end Go.Proofs.Ytkocompjjogciaa
