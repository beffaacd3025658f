/-
  What is proved: texts cut at a sign; numbers read from texts. Conditions: none.
  What is proved: strconv.Atoi in this program's numbers. Conditions: as each says.
  What is proved: strings.Cut and strings.SplitN in this program's numbers. Conditions: as each says.
  What is proved: a number read from a text, by the program and by the model. Conditions: the library's variables lie as told (the program); the text has at most 2^20 bytes.
  What is proved: rows of texts of the call's own: read, carried on, appended to. Conditions: as each says.
  What is proved: the model's l1Split: a text cut at each place of a sign. Conditions: the text has at most 2^20 bytes.
  What is proved: the program's parseWords over numbers. Conditions: the library's variables lie as told; the text has at most 2^20 bytes.
  What is proved: the model and the program read the same party, or none, out of each text. Conditions: none.
  What is proved: the contract of the program's ParseParty. Conditions: the library's variables lie as told; the text has at most 2^20 bytes.
  What is proved: the contract of the model's ParseParty. Conditions: the text has at most 2^20 bytes.
  What is proved: the law FnExactParseParty returns true at every argument, and leaves all that was there as it was. Conditions: the arguments are read as they lie.
-/
import Derived.Lib.SplitLaws
import Derived.Lib.AtoiTie
import Derived.Lib.AtoiAllCases
import Derived.Shelf.Strconv.AtoiAll
import Derived.Shelf.Strconv.ErrVarAll
import Derived.Test.YtedkanncdkofaaaDoorProg
import Derived.Shelf.Strings.Cut
import Derived.Shelf.Strings.Split
import Derived.Deep.DeepCutAuto
import Derived.Deep.RegionHeld3
import Derived.Test.YtedkanncdkofaaaDoorJ2PuzzleText
set_option linter.unusedSimpArgs false
set_option linter.unusedVariables false
namespace Go.Proofs.YtedkanncdkofaaaDoor

/-- A text cut at each c. -/
def pieces (c : UInt8) : List UInt8 → List (List UInt8)
  | [] => [[]]
  | x :: r => if x = c then [] :: pieces c r else match pieces c r with
    | [] => [[x]]
    | p :: ps => (x :: p) :: ps
theorem pieces_ne (c : UInt8) (l : List UInt8) : pieces c l ≠ [] := by
  cases l with
  | nil => simp [pieces]
  | cons x r =>
    unfold pieces
    split
    · simp
    · split <;> simp
theorem pieces_none {c : UInt8} : ∀ {a : List UInt8}, c ∉ a → pieces c a = [a] := by
  intro a
  induction a with
  | nil => intro _; rfl
  | cons x r ih =>
    intro h
    have hx : x ≠ c := fun e => h (by simp [e])
    rw [pieces, if_neg hx, ih fun e => h (List.mem_cons_of_mem _ e)]
theorem pieces_app {c : UInt8} : ∀ {a : List UInt8} (r : List UInt8), c ∉ a → pieces c (a ++ c :: r) = a :: pieces c r := by
  intro a
  induction a with
  | nil => intro r _; rw [List.nil_append, pieces, if_pos rfl]
  | cons x t ih =>
    intro r h
    have hx : x ≠ c := fun e => h (by simp [e])
    rw [List.cons_append, pieces, if_neg hx, ih r fun e => h (List.mem_cons_of_mem _ e)]
theorem pieces_free {c : UInt8} : ∀ {l : List UInt8} {p : List UInt8}, p ∈ pieces c l → c ∉ p := by
  intro l
  induction l with
  | nil => intro p hp; simp [pieces] at hp; subst hp; simp
  | cons x r ih =>
    intro p hp
    unfold pieces at hp
    split at hp
    · rcases List.mem_cons.1 hp with rfl | h
      · simp
      · exact ih h
    · rename_i hx
      split at hp
      · simp at hp; subst hp; simp; exact fun e => hx e.symm
      · rename_i q qs hq
        rcases List.mem_cons.1 hp with rfl | h
        · have := ih (p := q) (by rw [hq]; simp)
          simp only [List.mem_cons, not_or]
          exact ⟨fun e => hx e.symm, this⟩
        · exact ih (by rw [hq]; exact List.mem_cons_of_mem _ h)
/-- A sign that stands in a text stands in one of its pieces. -/
theorem pieces_mem {c d : UInt8} (hd : d ≠ c) : ∀ {l : List UInt8}, d ∈ l → ∃ p ∈ pieces c l, d ∈ p := by
  intro l
  induction l with
  | nil => intro h; cases h
  | cons x r ih =>
    intro h
    unfold pieces
    split
    · rename_i hx
      rcases List.mem_cons.1 h with rfl | h'
      · exact absurd hx hd
      · obtain ⟨p, hp, hdp⟩ := ih h'
        exact ⟨p, List.mem_cons_of_mem _ hp, hdp⟩
    · split
      · rename_i hq
        exact absurd hq (pieces_ne c r)
      · rename_i q qs hq
        rcases List.mem_cons.1 h with rfl | h'
        · exact ⟨_, List.mem_cons_self, List.mem_cons_self⟩
        · obtain ⟨p, hp, hdp⟩ := ih h'
          rw [hq] at hp
          rcases List.mem_cons.1 hp with rfl | hp'
          · exact ⟨_, List.mem_cons_self, List.mem_cons_of_mem _ hdp⟩
          · exact ⟨p, List.mem_cons_of_mem _ hp', hdp⟩
theorem index_out {c : UInt8} : ∀ {l : List UInt8}, c ∉ l → Lib.index l [c] = -1 := by
  intro l
  induction l with
  | nil => intro _; rfl
  | cons x r ih =>
    intro h
    have hx : ¬ c = x := fun e => h (by simp [e])
    rw [Lib.index, if_neg (by simp [List.isPrefixOf, hx]), ih fun e => h (List.mem_cons_of_mem _ e)]
    rfl
theorem index_at {c : UInt8} : ∀ {a : List UInt8} (r : List UInt8), c ∉ a → Lib.index (a ++ c :: r) [c] = (a.length : Int) := by
  intro a
  induction a with
  | nil => intro r _; rw [List.nil_append, Lib.index, if_pos (by simp [List.isPrefixOf])]; rfl
  | cons x t ih =>
    intro r h
    have hx : ¬ c = x := fun e => h (by simp [e])
    rw [List.cons_append, Lib.index, if_neg (by simp [List.isPrefixOf, hx]), ih r fun e => h (List.mem_cons_of_mem _ e), if_neg (by simp)]
    simp
/-- A text up to its first c, and the rest. -/
theorem first_of {c : UInt8} {l : List UInt8} (h : c ∈ l) : ∃ a r, l = a ++ c :: r ∧ c ∉ a := by
  induction l with
  | nil => cases h
  | cons x t ih =>
    by_cases hx : x = c
    · exact ⟨[], t, by rw [hx]; rfl, by simp⟩
    · rcases List.mem_cons.1 h with rfl | h'
      · exact absurd rfl hx
      · obtain ⟨a, r, rfl, ha⟩ := ih h'
        exact ⟨x :: a, r, rfl, by simp only [List.mem_cons, not_or]; exact ⟨fun e => hx e.symm, ha⟩⟩
/-- Cut at most k times. -/
theorem split_at (c : UInt8) : ∀ (k : Nat) (l : List UInt8), ((pieces c l).length ≤ k + 1 → Lib.splitK [c] 0 k l = pieces c l) ∧ (k + 1 < (pieces c l).length → (Lib.splitK [c] 0 k l).length = k + 1) := by
  intro k
  induction k with
  | zero =>
    intro l
    refine ⟨fun h => ?_, fun _ => rfl⟩
    by_cases hc : c ∈ l
    · obtain ⟨a, r, rfl, ha⟩ := first_of hc
      have := List.length_pos_iff.2 (pieces_ne c r)
      rw [pieces_app r ha, List.length_cons] at h
      omega
    · rw [pieces_none hc]; rfl
  | succ k ih =>
    intro l
    by_cases hc : c ∈ l
    · obtain ⟨a, r, rfl, ha⟩ := first_of hc
      have hi := index_at r ha
      have e1 : Lib.splitK [c] 0 (k + 1) (a ++ c :: r) = a :: Lib.splitK [c] 0 k r := by
        rw [Lib.splitK, hi, if_neg (by simp)]
        simp
      rw [e1, pieces_app r ha]
      obtain ⟨h1, h2⟩ := ih r
      refine ⟨fun h => ?_, fun h => ?_⟩
      · rw [h1 (by simpa using h)]
      · rw [List.length_cons, h2 (by simpa using h)]
    · have e1 : Lib.splitK [c] 0 (k + 1) l = [l] := by rw [Lib.splitK, index_out hc]; rfl
      rw [e1, pieces_none hc]
      exact ⟨fun _ => rfl, fun h => by simp at h⟩
theorem cut_out {c : UInt8} {l : List UInt8} (h : c ∉ l) : Lib.cut l [c] = (l, [], false) := by rw [Lib.cut, index_out h, if_neg (by omega)]
theorem cut_at {c : UInt8} {a : List UInt8} (r : List UInt8) (h : c ∉ a) : Lib.cut (a ++ c :: r) [c] = (a, r, true) := by
  rw [Lib.cut, index_at r h, if_pos (by omega)]
  simp

/-! Numbers. -/
theorem decFrom_snoc (b : UInt8) : ∀ (l : List UInt8) (acc : Nat), Lib.decFrom acc (l ++ [b]) = (Lib.decFrom acc l).bind fun m => (Lib.digitVal b).map fun d => m * 10 + d := by
  intro l
  induction l with
  | nil =>
    intro acc
    cases h : Lib.digitVal b <;> simp [Lib.decFrom, h]
  | cons x r ih =>
    intro acc
    rw [List.cons_append]
    cases h : Lib.digitVal x <;> simp [Lib.decFrom, h, ih]
theorem digitVal_of {d : Nat} (h : d < 10) : Lib.digitVal (UInt8.ofNat (48 + d)) = some d := by
  have : (UInt8.ofNat (48 + d)).toNat = 48 + d := by simp [UInt8.toNat_ofNat']; omega
  unfold Lib.digitVal
  rw [this, if_pos (by omega)]
  congr 1
  omega
theorem decFrom_digits : ∀ (n : Nat), Lib.decFrom 0 (Lib.decDigits n) = some n := by
  intro n
  induction n using Nat.strongRecOn with
  | _ n ih =>
    by_cases h : n < 10
    · rw [decDigits_small h]
      have hv := digitVal_of h
      generalize UInt8.ofNat (48 + n) = b at hv ⊢
      simp [Lib.decFrom, hv]
    · rw [decDigits_more h, decFrom_snoc, ih (n / 10) (by omega)]
      have hv := digitVal_of (show n % 10 < 10 by omega)
      generalize UInt8.ofNat (48 + n % 10) = b at hv ⊢
      simp [hv]
      omega
/-- A number's digits begin with no nought, but those of nought itself. -/
theorem digits_head : ∀ (n : Nat), ∃ b r, Lib.decDigits n = b :: r ∧ 48 ≤ b.toNat ∧ b.toNat ≤ 57 ∧ (b = 48 → n = 0) := by
  intro n
  induction n using Nat.strongRecOn with
  | _ n ih =>
    by_cases h : n < 10
    · have hn : (UInt8.ofNat (48 + n)).toNat = 48 + n := by simp [UInt8.toNat_ofNat']; omega
      refine ⟨_, [], decDigits_small h, by omega, by omega, fun e => ?_⟩
      have := congrArg UInt8.toNat e
      rw [hn] at this
      simp at this
      exact this
    · obtain ⟨b, r, hb, h1, h2, h3⟩ := ih (n / 10) (by omega)
      refine ⟨b, r ++ [UInt8.ofNat (48 + n % 10)], by rw [decDigits_more h, hb]; rfl, h1, h2, fun e => ?_⟩
      have := h3 e
      omega
theorem digits_of_dec : ∀ (k : Nat) (l : List UInt8) (n : Nat), l.length = k → l ≠ [] → ¬ (l.head? = some 48 ∧ 1 < l.length) → Lib.decFrom 0 l = some n → l = Lib.decDigits n := by
  intro k
  induction k with
  | zero => intro l n hl h0; exact absurd (List.eq_nil_of_length_eq_zero hl) h0
  | succ k ih =>
    intro l n hl h0 hz hd
    obtain ⟨a, b, rfl⟩ : ∃ a b, l = a ++ [b] := ⟨l.dropLast, l.getLast h0, (List.dropLast_concat_getLast h0).symm⟩
    have hal : a.length = k := by simpa using hl
    rw [decFrom_snoc] at hd
    rcases a with _ | ⟨x, t⟩
    · obtain ⟨d, hdv, hn⟩ : ∃ d, Lib.digitVal b = some d ∧ n = d := by
        simp only [Lib.decFrom, Option.bind_some] at hd
        obtain ⟨d, h1, h2⟩ := Option.map_eq_some_iff.1 hd
        exact ⟨d, h1, by omega⟩
      obtain ⟨h1, h2, h3⟩ := Lib.digitVal_eq hdv
      subst hn
      rw [decDigits_small (by omega), List.nil_append]
      congr 1
      apply UInt8.toNat_inj.1
      simp [UInt8.toNat_ofNat']
      omega
    · obtain ⟨m, hm, hmd⟩ := Option.bind_eq_some_iff.1 hd
      obtain ⟨d, hdv, hn⟩ := Option.map_eq_some_iff.1 hmd
      obtain ⟨h1, h2, h3⟩ := Lib.digitVal_eq hdv
      have hz2 : ¬ x = 48 := fun e => hz ⟨by simp [e], by simp⟩
      have ha := ih (x :: t) m hal (by simp) (by simp; exact fun e => absurd e hz2) hm
      obtain ⟨y, r, hy, -, -, hy0⟩ := digits_head m
      rw [hy] at ha
      have hxy : x = y := by simpa using congrArg List.head? ha
      have hm1 : 1 ≤ m := by
        rcases Nat.eq_zero_or_pos m with rfl | h
        · have : Lib.decDigits 0 = [48] := by rw [decDigits_small (by omega)]; rfl
          rw [this] at hy
          have : y = 48 := by simpa using (congrArg List.head? hy).symm
          exact absurd (hxy.trans this) hz2
        · exact h
      have e := decDigits_more (n := m * 10 + d) (by omega)
      rw [show (m * 10 + d) / 10 = m by omega] at e
      rw [← hn, e, ha, ← hy]
      congr 2
      apply UInt8.toNat_inj.1
      simp [UInt8.toNat_ofNat']
      omega

/-- What the model reads of a text. -/
def readL (l : List UInt8) : Int :=
  if (1 ≤ l.length ∧ l.length ≤ 6) ∧ ¬ (l.head? = some 48 ∧ 1 < l.length) then match Lib.decFrom 0 l with
    | some n => n
    | none => -1
  else -1
/-- What the program reads of a text. -/
def numL (l : List UInt8) : Option Int := match Lib.atoiAll l with
  | .ok v => if 0 ≤ v ∧ Lib.itoa v = l then some v else none
  | _ => none
theorem readL_digits {n : Nat} (h : n < 1000000) : readL (Lib.decDigits n) = n := by
  have hl := decDigits_le 5 n (by omega)
  obtain ⟨b, r, hb, -, -, hz⟩ := digits_head n
  unfold readL
  rw [decFrom_digits, if_pos]
  refine ⟨⟨by rw [hb]; simp, hl⟩, ?_⟩
  rintro ⟨h1, h2⟩
  rw [hb] at h1
  have h0 := hz (by simpa using h1)
  subst h0
  rw [decDigits_small (by omega)] at h2
  simp at h2
theorem readL_some {l : List UInt8} (h : 0 ≤ readL l) : ∃ n : Nat, readL l = n ∧ l = Lib.decDigits n ∧ n < 1000000 := by
  unfold readL at h ⊢
  split at h
  · rename_i hc
    rw [if_pos hc]
    cases hd : Lib.decFrom 0 l with
    | none => rw [hd] at h; simp at h
    | some n =>
      have hl := digits_of_dec _ l n rfl (fun e => by rw [e] at hc; simp at hc) hc.2 hd
      refine ⟨n, rfl, hl, ?_⟩
      have h6 := Lib.decFrom_lt l 0 n hd
      have : 10 ^ l.length ≤ 10 ^ 6 := Nat.pow_le_pow_right (by omega) hc.1.2
      omega
  · omega
theorem readL_neg {l : List UInt8} (h : ¬ 0 ≤ readL l) : readL l = -1 := by
  unfold readL at h ⊢
  split
  · rename_i hc
    rw [if_pos hc] at h
    cases hd : Lib.decFrom 0 l with
    | none => rfl
    | some n => rw [hd] at h; simp at h
  · rfl
theorem numL_some {l : List UInt8} {v : Int} (h : numL l = some v) : 0 ≤ v ∧ l = digs v ∧ v ≤ 9223372036854775807 := by
  unfold numL at h
  split at h
  · rename_i w hw
    split at h
    · rename_i hc
      obtain rfl : w = v := by simpa using h
      exact ⟨hc.1, by rw [← itoa_digs hc.1]; exact hc.2.symm, (Lib.atoiAll_bounds hw).2⟩
    · cases h
  · cases h
theorem numL_digits {n : Nat} (h : n < 1000000) : numL (Lib.decDigits n) = some (n : Int) := by
  have hl := decDigits_le 5 n (by omega)
  obtain ⟨b, r, hb, h1, h2, -⟩ := digits_head n
  have ha : Lib.atoiAll (Lib.decDigits n) = .ok (n : Int) := by
    rw [Lib.atoiAll_short _ (by omega)]
    have hdn : Lib.decNat (Lib.decDigits n) = some n := by
      unfold Lib.decNat
      rw [hb, if_neg (by simp), ← hb, decFrom_digits]
    rw [hb] at hdn ⊢
    have e1 : (b == 45) = false := by
      rw [beq_eq_false_iff_ne]; rintro rfl; simp at h1
    have e2 : (b == 43) = false := by
      rw [beq_eq_false_iff_ne]; rintro rfl; simp at h1
    simp [Lib.atoi, e1, e2, hdn, Lib.NumEnd.ofOption]
  unfold numL
  rw [ha]
  simp [Lib.itoa_nonneg]
theorem read_of_num {l : List UInt8} {v : Int} (h : numL l = some v) (hv : v < 1000000) : readL l = v := by
  obtain ⟨h0, hl, -⟩ := numL_some h
  obtain ⟨n, rfl⟩ : ∃ n : Nat, v = n := ⟨v.toNat, by omega⟩
  rw [hl, digs_nat, readL_digits (by omega)]
theorem num_of_read {l : List UInt8} (h : 0 ≤ readL l) : numL l = some (readL l) ∧ readL l < 1000000 := by
  obtain ⟨n, hr, hl, hn⟩ := readL_some h
  rw [hr, hl, numL_digits hn]
  exact ⟨rfl, by omega⟩
/-- A number's text holds digits alone. -/
theorem digits_all : ∀ (n : Nat), ∀ b ∈ Lib.decDigits n, 48 ≤ b.toNat ∧ b.toNat ≤ 57 := by
  intro n
  induction n using Nat.strongRecOn with
  | _ n ih =>
    intro b hb
    by_cases h : n < 10
    · rw [decDigits_small h] at hb
      obtain rfl : b = UInt8.ofNat (48 + n) := by simpa using hb
      have : (UInt8.ofNat (48 + n)).toNat = 48 + n := by simp [UInt8.toNat_ofNat']; omega
      omega
    · rw [decDigits_more h] at hb
      rcases List.mem_append.1 hb with h' | h'
      · exact ih (n / 10) (by omega) b h'
      · obtain rfl : b = UInt8.ofNat (48 + n % 10) := by simpa using h'
        have : (UInt8.ofNat (48 + n % 10)).toNat = 48 + n % 10 := by simp [UInt8.toNat_ofNat']; omega
        omega
end Go.Proofs.YtedkanncdkofaaaDoor

namespace Go.Proofs
open Go.Shelf
def Tryd.laysC172_ren : Go.Shelf.Ren := ⟨fun | 172 => 122 | 244 => 139 | 245 => 140 | 247 => 158 | 279 => 159 | 280 => 160 | 281 => 161 | 282 => 162 | 287 => 176 | 316 => 177 | 171 => 63 | 205 => 178 | 321 => 182 | 322 => 183 | 243 => 115 | 246 => 135 | 283 => 148 | 284 => 149 | 285 => 150 | 286 => 151 | 129 => 170 | 317 => 169 | 318 => 171 | 319 => 172 | 320 => 173 | 337 => 180 | 338 => 181 | n => n, fun | 9 => 9 | 3 => 3 | 75 => 137 | 76 => 138 | 4 => 4 | 5 => 5 | 167 => 172 | 37 => 132 | 0 => 0 | 85 => 173 | 2 => 2 | 168 => 175 | 53 => 161 | 175 => 191 | 46 => 171 | 210 => 195 | 127 => 153 | 145 => 201 | 143 => 199 | 21 => 21 | 171 => 160 | 173 => 164 | 212 => 185 | 51 => 186 | 20 => 20 | 213 => 187 | 232 => 206 | 233 => 207 | 80 => 122 | n => n, fun | 15 => 2 | 16 => 3 | 17 => 1 | 18 => 6 | 19 => 7 | n => n⟩
theorem Tryd.laysC172 : Go.Proofs.LaysC.n172 Tryd.prog Tryd.laysC172_ren := {
  mixed := by kernel_rfl
  f129 := Tryd.func170.trans (congrArg some (by kernel_rfl))
  f171 := Tryd.func63.trans (congrArg some (by kernel_rfl))
  f172 := Tryd.func122.trans (congrArg some (by kernel_rfl))
  f205 := Tryd.func178.trans (congrArg some (by kernel_rfl))
  f243 := Tryd.func115.trans (congrArg some (by kernel_rfl))
  f244 := Tryd.func139.trans (congrArg some (by kernel_rfl))
  f245 := Tryd.func140.trans (congrArg some (by kernel_rfl))
  f246 := Tryd.func135.trans (congrArg some (by kernel_rfl))
  f247 := Tryd.func158.trans (congrArg some (by kernel_rfl))
  f279 := Tryd.func159.trans (congrArg some (by kernel_rfl))
  f280 := Tryd.func160.trans (congrArg some (by kernel_rfl))
  f281 := Tryd.func161.trans (congrArg some (by kernel_rfl))
  f282 := Tryd.func162.trans (congrArg some (by kernel_rfl))
  f283 := Tryd.func148.trans (congrArg some (by kernel_rfl))
  f284 := Tryd.func149.trans (congrArg some (by kernel_rfl))
  f285 := Tryd.func150.trans (congrArg some (by kernel_rfl))
  f286 := Tryd.func151.trans (congrArg some (by kernel_rfl))
  f287 := Tryd.func176.trans (congrArg some (by kernel_rfl))
  f316 := Tryd.func177.trans (congrArg some (by kernel_rfl))
  f317 := Tryd.func169.trans (congrArg some (by kernel_rfl))
  f318 := Tryd.func171.trans (congrArg some (by kernel_rfl))
  f319 := Tryd.func172.trans (congrArg some (by kernel_rfl))
  f320 := Tryd.func173.trans (congrArg some (by kernel_rfl))
  f321 := Tryd.func182.trans (congrArg some (by kernel_rfl))
  f322 := Tryd.func183.trans (congrArg some (by kernel_rfl))
  f337 := Tryd.func180.trans (congrArg some (by kernel_rfl))
  f338 := Tryd.func181.trans (congrArg some (by kernel_rfl))
  t0 := Tryd.underlying0
  a0 := Tryd.isAgg0
  z0 := Tryd.sizeOf0
  v0 := Tryd.zeroValue0
  t2 := Tryd.underlying2
  a2 := Tryd.isAgg2
  z2 := Tryd.sizeOf2
  v2 := Tryd.zeroValue2
  t3 := Tryd.underlying3
  a3 := Tryd.isAgg3
  z3 := Tryd.sizeOf3
  v3 := Tryd.zeroValue3
  t4 := Tryd.underlying4
  a4 := Tryd.isAgg4
  z4 := Tryd.sizeOf4
  v4 := Tryd.zeroValue4
  t5 := Tryd.underlying5
  a5 := Tryd.isAgg5
  z5 := Tryd.sizeOf5
  v5 := Tryd.zeroValue5
  t9 := Tryd.underlying9
  a9 := Tryd.isAgg9
  z9 := Tryd.sizeOf9
  v9 := Tryd.zeroValue9
  t20 := Tryd.underlying20
  a20 := Tryd.isAgg20
  z20 := Tryd.sizeOf20
  v20 := Tryd.zeroValue20
  t21 := Tryd.underlying21
  a21 := Tryd.isAgg21
  z21 := Tryd.sizeOf21
  v21 := Tryd.zeroValue21
  t37 := Tryd.underlying132
  a37 := Tryd.isAgg132
  z37 := Tryd.sizeOf132
  v37 := Tryd.zeroValue132
  t46 := Tryd.underlying171
  a46 := Tryd.isAgg171
  z46 := Tryd.sizeOf171
  v46 := Tryd.zeroValue171
  t51 := Tryd.underlying186
  a51 := Tryd.isAgg186
  z51 := Tryd.sizeOf186
  v51 := Tryd.zeroValue186
  t53 := Tryd.underlying161
  a53 := Tryd.isAgg161
  z53 := Tryd.sizeOf161
  v53 := Tryd.zeroValue161
  t75 := Tryd.underlying137
  a75 := Tryd.isAgg137
  z75 := Tryd.sizeOf137
  v75 := Tryd.zeroValue137
  t76 := Tryd.underlying138
  a76 := Tryd.isAgg138
  z76 := Tryd.sizeOf138
  v76 := Tryd.zeroValue138
  t85 := Tryd.underlying173
  a85 := Tryd.isAgg173
  z85 := Tryd.sizeOf173
  v85 := Tryd.zeroValue173
  t127 := Tryd.underlying153
  a127 := Tryd.isAgg153
  z127 := Tryd.sizeOf153
  v127 := Tryd.zeroValue153
  t143 := Tryd.underlying199
  a143 := Tryd.isAgg199
  z143 := Tryd.sizeOf199
  v143 := Tryd.zeroValue199
  t145 := Tryd.underlying201
  a145 := Tryd.isAgg201
  z145 := Tryd.sizeOf201
  v145 := Tryd.zeroValue201
  t167 := Tryd.underlying172
  a167 := Tryd.isAgg172
  z167 := Tryd.sizeOf172
  v167 := Tryd.zeroValue172
  t168 := Tryd.underlying175
  a168 := Tryd.isAgg175
  z168 := Tryd.sizeOf175
  v168 := Tryd.zeroValue175
  t171 := Tryd.underlying160
  a171 := Tryd.isAgg160
  z171 := Tryd.sizeOf160
  v171 := Tryd.zeroValue160
  t173 := Tryd.underlying164
  a173 := Tryd.isAgg164
  z173 := Tryd.sizeOf164
  v173 := Tryd.zeroValue164
  t175 := Tryd.underlying191
  a175 := Tryd.isAgg191
  z175 := Tryd.sizeOf191
  v175 := Tryd.zeroValue191
  t210 := Tryd.underlying195
  a210 := Tryd.isAgg195
  z210 := Tryd.sizeOf195
  v210 := Tryd.zeroValue195
  t212 := Tryd.underlying185
  a212 := Tryd.isAgg185
  z212 := Tryd.sizeOf185
  v212 := Tryd.zeroValue185
  t213 := Tryd.underlying187
  a213 := Tryd.isAgg187
  z213 := Tryd.sizeOf187
  t232 := Tryd.underlying206
  a232 := Tryd.isAgg206
  z232 := Tryd.sizeOf206
  v232 := Tryd.zeroValue206
  t233 := Tryd.underlying207
  a233 := Tryd.isAgg207
  z233 := Tryd.sizeOf207
  v233 := Tryd.zeroValue207
  g15 := by kernel_rfl
  g16 := by kernel_rfl
  g17 := by kernel_rfl
  g18 := by kernel_rfl
  g19 := by kernel_rfl
  t80 := Tryd.underlying122
  a80 := Tryd.isAgg122
  z80 := Tryd.sizeOf122
  v80 := Tryd.zeroValue122
  i0 := by kernel_rfl
  i2 := by kernel_rfl
  i3 := by kernel_rfl
  i4 := by kernel_rfl
  i5 := by kernel_rfl
  i9 := by kernel_rfl
  i20 := by kernel_rfl
  i21 := by kernel_rfl
  i37 := by kernel_rfl
  i46 := by kernel_rfl
  i51 := by kernel_rfl
  i53 := by kernel_rfl
  i75 := by kernel_rfl
  i76 := by kernel_rfl
  i80 := by kernel_rfl
  i85 := by kernel_rfl
  i127 := by kernel_rfl
  i143 := by kernel_rfl
  i145 := by kernel_rfl
  i167 := by kernel_rfl
  i168 := by kernel_rfl
  i171 := by kernel_rfl
  i173 := by kernel_rfl
  i175 := by kernel_rfl
  i210 := by kernel_rfl
  i212 := by kernel_rfl
  i232 := by kernel_rfl
  i233 := by kernel_rfl
  m15 := by kernel_rfl
  m16 := by kernel_rfl
  m17 := by kernel_rfl
  m18 := by kernel_rfl
  m19 := by kernel_rfl
  c0 := by kernel_rfl
  c2 := by kernel_rfl
  c3 := by kernel_rfl
  c4 := by kernel_rfl
  c5 := by kernel_rfl
  c9 := by kernel_rfl
  c20 := by kernel_rfl
  c21 := by kernel_rfl
  c37 := by kernel_rfl
  c46 := by kernel_rfl
  c51 := by kernel_rfl
  c53 := by kernel_rfl
  c75 := by kernel_rfl
  c76 := by kernel_rfl
  c80 := by kernel_rfl
  c85 := by kernel_rfl
  c127 := by kernel_rfl
  c143 := by kernel_rfl
  c145 := by kernel_rfl
  c167 := by kernel_rfl
  c168 := by kernel_rfl
  c171 := by kernel_rfl
  c173 := by kernel_rfl
  c175 := by kernel_rfl
  c210 := by kernel_rfl
  c212 := by kernel_rfl
  c213 := by kernel_rfl
  c232 := by kernel_rfl
  c233 := by kernel_rfl }
open Go.RowKit in
theorem Tryd.strconv_Atoi_ok (s : ByteArray) (hmax : s.size ≤ 9223372036854775806) (v : Int) (h : Lib.atoiAll s.data.toList = .ok v) (w : World) :
    Calls Tryd.prog 122 #[.string s] w fun e w' => e = .returned (.tuple #[.int .i64 v, .nilIface]) ∧ (w' = w ∨ ∃ t, w' = Lib.bytesWorld w 5 t) := Any.strconv_Atoi_ok Tryd.laysC172 s hmax v h w
open Go.RowKit in
theorem Tryd.strconv_Atoi_syntax_var (s : ByteArray) (hlim : s.size ≤ 281474976710656) (h : Lib.atoiAll s.data.toList = .«syntax») (tp : TypeId) (p : Value) (w : World) (hvar : w.var? Tryd.prog "strconv.ErrSyntax" = some #[.iface tp p]) :
    Calls Tryd.prog 122 #[.string s] w fun e w' => ∃ N, e = .returned (.tuple #[.int .i64 0, .iface 175 (.pointer (some ⟨N, 0, none⟩))]) ∧ w.heap.size ≤ N ∧ w'.heap[N]? = some (.cells #[.string ⟨#[65, 116, 111, 105]⟩, .string s, .iface tp p] 195 (0, 0)) ∧ Below w.heap.size w w' := Any.strconv_Atoi_syntax_var Tryd.laysC172 s hlim h tp p w hvar
open Go.RowKit in
theorem Tryd.strconv_Atoi_range_var (s : ByteArray) (hlim : s.size ≤ 281474976710656) (h : Lib.atoiAll s.data.toList = .range) (tp : TypeId) (p : Value) (w : World) (hvar : w.var? Tryd.prog "strconv.ErrRange" = some #[.iface tp p]) :
    Calls Tryd.prog 122 #[.string s] w fun e w' => ∃ N, e = .returned (.tuple #[.int .i64 (Lib.atoiSat s.data.toList), .iface 175 (.pointer (some ⟨N, 0, none⟩))]) ∧ w.heap.size ≤ N ∧ w'.heap[N]? = some (.cells #[.string ⟨#[65, 116, 111, 105]⟩, .string s, .iface tp p] 195 (0, 0)) ∧ Below w.heap.size w w' := Any.strconv_Atoi_range_var Tryd.laysC172 s hlim h tp p w hvar
end Go.Proofs

namespace Go.Proofs
open Go.Shelf
def Tryd.lays145_ren : Go.Shelf.Ren := ⟨fun | 145 => 67 | 220 => 121 | 219 => 138 | 217 => 154 | 225 => 155 | 224 => 156 | 267 => 157 | 266 => 174 | 314 => 175 | n => n, fun | 9 => 9 | 4 => 4 | 59 => 93 | 3 => 3 | 5 => 5 | 46 => 171 | 146 => 189 | 51 => 186 | n => n, fun | 1 => 0 | n => n⟩
theorem Tryd.lays145 : Go.Proofs.Lays.n145 Tryd.prog Tryd.lays145_ren := {
  mixed := by kernel_rfl
  f145 := Tryd.func67.trans (congrArg some (by kernel_rfl))
  f217 := Tryd.func154.trans (congrArg some (by kernel_rfl))
  f219 := Tryd.func138.trans (congrArg some (by kernel_rfl))
  f220 := Tryd.func121.trans (congrArg some (by kernel_rfl))
  f224 := Tryd.func156.trans (congrArg some (by kernel_rfl))
  f225 := Tryd.func155.trans (congrArg some (by kernel_rfl))
  f266 := Tryd.func174.trans (congrArg some (by kernel_rfl))
  f267 := Tryd.func157.trans (congrArg some (by kernel_rfl))
  f314 := Tryd.func175.trans (congrArg some (by kernel_rfl))
  t3 := Tryd.underlying3
  a3 := Tryd.isAgg3
  z3 := Tryd.sizeOf3
  v3 := Tryd.zeroValue3
  t4 := Tryd.underlying4
  a4 := Tryd.isAgg4
  z4 := Tryd.sizeOf4
  v4 := Tryd.zeroValue4
  t5 := Tryd.underlying5
  a5 := Tryd.isAgg5
  z5 := Tryd.sizeOf5
  v5 := Tryd.zeroValue5
  t9 := Tryd.underlying9
  a9 := Tryd.isAgg9
  z9 := Tryd.sizeOf9
  v9 := Tryd.zeroValue9
  t46 := Tryd.underlying171
  a46 := Tryd.isAgg171
  z46 := Tryd.sizeOf171
  v46 := Tryd.zeroValue171
  t51 := Tryd.underlying186
  a51 := Tryd.isAgg186
  z51 := Tryd.sizeOf186
  v51 := Tryd.zeroValue186
  t59 := Tryd.underlying93
  a59 := Tryd.isAgg93
  z59 := Tryd.sizeOf93
  v59 := Tryd.zeroValue93
  t146 := Tryd.underlying189
  a146 := Tryd.isAgg189
  z146 := Tryd.sizeOf189
  v146 := Tryd.zeroValue189
  g1 := by kernel_rfl }
open Go.RowKit Go.Lib in
theorem Tryd.strings_Cut (s sep : ByteArray) (m : Int) (w : World) (hs : s.size < 4294967281) (hm : w.cell? ⟨0, 0, none⟩ = some (.int .i64 m)) :
    Calls Tryd.prog 67 #[.string s, .string sep] w fun e w' => e = .returned (.tuple #[.string ⟨(Lib.cut s.data.toList sep.data.toList).1.toArray⟩, .string ⟨(Lib.cut s.data.toList sep.data.toList).2.1.toArray⟩, .bool (Lib.cut s.data.toList sep.data.toList).2.2]) ∧ ∃ n, w' = w.drewN n := Any.strings_Cut Tryd.lays145 s sep m w hs hm
def Tryd.lays147_ren : Go.Shelf.Ren := ⟨fun | 147 => 79 | 221 => 127 | 268 => 142 | 138 => 143 | 143 => 144 | 195 => 164 | 197 => 165 | 218 => 166 | 219 => 138 | 260 => 179 | 217 => 154 | 225 => 155 | 224 => 156 | 267 => 157 | 266 => 174 | 314 => 175 | n => n, fun | 9 => 9 | 3 => 3 | 31 => 89 | 4 => 4 | 0 => 0 | 105 => 178 | 21 => 21 | 5 => 5 | 46 => 171 | 119 => 202 | 139 => 205 | 138 => 204 | 146 => 189 | 51 => 186 | n => n, fun | 1 => 0 | 3 => 4 | 4 => 5 | n => n⟩
theorem Tryd.lays147 : Go.Proofs.Lays.n147 Tryd.prog Tryd.lays147_ren := {
  mixed := by kernel_rfl
  f138 := Tryd.func143.trans (congrArg some (by kernel_rfl))
  f143 := Tryd.func144.trans (congrArg some (by kernel_rfl))
  f147 := Tryd.func79.trans (congrArg some (by kernel_rfl))
  f195 := Tryd.func164.trans (congrArg some (by kernel_rfl))
  f197 := Tryd.func165.trans (congrArg some (by kernel_rfl))
  f217 := Tryd.func154.trans (congrArg some (by kernel_rfl))
  f218 := Tryd.func166.trans (congrArg some (by kernel_rfl))
  f219 := Tryd.func138.trans (congrArg some (by kernel_rfl))
  f221 := Tryd.func127.trans (congrArg some (by kernel_rfl))
  f224 := Tryd.func156.trans (congrArg some (by kernel_rfl))
  f225 := Tryd.func155.trans (congrArg some (by kernel_rfl))
  f260 := Tryd.func179.trans (congrArg some (by kernel_rfl))
  f266 := Tryd.func174.trans (congrArg some (by kernel_rfl))
  f267 := Tryd.func157.trans (congrArg some (by kernel_rfl))
  f268 := Tryd.func142.trans (congrArg some (by kernel_rfl))
  f314 := Tryd.func175.trans (congrArg some (by kernel_rfl))
  t0 := Tryd.underlying0
  a0 := Tryd.isAgg0
  z0 := Tryd.sizeOf0
  v0 := Tryd.zeroValue0
  t3 := Tryd.underlying3
  a3 := Tryd.isAgg3
  z3 := Tryd.sizeOf3
  v3 := Tryd.zeroValue3
  t4 := Tryd.underlying4
  a4 := Tryd.isAgg4
  z4 := Tryd.sizeOf4
  v4 := Tryd.zeroValue4
  t5 := Tryd.underlying5
  a5 := Tryd.isAgg5
  z5 := Tryd.sizeOf5
  v5 := Tryd.zeroValue5
  t9 := Tryd.underlying9
  a9 := Tryd.isAgg9
  z9 := Tryd.sizeOf9
  v9 := Tryd.zeroValue9
  t21 := Tryd.underlying21
  a21 := Tryd.isAgg21
  z21 := Tryd.sizeOf21
  v21 := Tryd.zeroValue21
  t31 := Tryd.underlying89
  a31 := Tryd.isAgg89
  z31 := Tryd.sizeOf89
  v31 := Tryd.zeroValue89
  t46 := Tryd.underlying171
  a46 := Tryd.isAgg171
  z46 := Tryd.sizeOf171
  v46 := Tryd.zeroValue171
  t51 := Tryd.underlying186
  a51 := Tryd.isAgg186
  z51 := Tryd.sizeOf186
  v51 := Tryd.zeroValue186
  t105 := Tryd.underlying178
  a105 := Tryd.isAgg178
  z105 := Tryd.sizeOf178
  v105 := Tryd.zeroValue178
  t119 := Tryd.underlying202
  a119 := Tryd.isAgg202
  z119 := Tryd.sizeOf202
  t138 := Tryd.underlying204
  a138 := Tryd.isAgg204
  z138 := Tryd.sizeOf204
  v138 := Tryd.zeroValue204
  t139 := Tryd.underlying205
  a139 := Tryd.isAgg205
  z139 := Tryd.sizeOf205
  v139 := Tryd.zeroValue205
  t146 := Tryd.underlying189
  a146 := Tryd.isAgg189
  z146 := Tryd.sizeOf189
  v146 := Tryd.zeroValue189
  g1 := by kernel_rfl
  g3 := by kernel_rfl
  g4 := by kernel_rfl }
open Go.RowKit Go.Lib in
theorem Tryd.strings_SplitN (s sep : ByteArray) (n : Nat) (m : Int) (w : World) (hs : s.size < 4294967281) (hm : w.cell? ⟨0, 0, none⟩ = some (.int .i64 m)) (h1 : 1 ≤ sep.size) (hn : 1 ≤ n) (hn63 : n ≤ 9223372036854775807) :
    Calls Tryd.prog 79 #[.string s, .string sep, .int .i64 n] w fun e w' =>
      e = .returned (.slice (some ⟨w.heap.size, 0, none⟩) (Lib.splitB sep 0 (min n (s.size + 1) - 1) s).length (min n (s.size + 1))) ∧ w' = w.alloc (.cells (Lib.cellsOf (Lib.splitB sep 0 (min n (s.size + 1) - 1) s) (min n (s.size + 1))) 9) := Any.strings_SplitN Tryd.lays147 (by kernel_rfl) s sep n m w hs hm h1 hn hn63
end Go.Proofs

namespace Go.Proofs.YtedkanncdkofaaaDoor
open Go.RowKit

/-- The library's variables lie as told. -/
structure LibLay (w : World) : Prop where
  tab : Tab w
  syn : ∃ tp p, w.var? Tryd.prog "strconv.ErrSyntax" = some #[.iface tp p]
  ran : ∃ tp p, w.var? Tryd.prog "strconv.ErrRange" = some #[.iface tp p]
  max : ∃ m, w.cell? ⟨0, 0, none⟩ = some (.int .i64 m)
theorem syn_named : Tryd.prog.globalNamed "strconv.ErrSyntax" = some 2 := by kernel_rfl
theorem ran_named : Tryd.prog.globalNamed "strconv.ErrRange" = some 3 := by kernel_rfl
theorem LibLay.below {w w' : World} (h : LibLay w) (hb : Below w.heap.size w w') : LibLay w' := by
  obtain ⟨h1, ⟨tp, p, h2⟩, ⟨tp', p', h3⟩, m, h4⟩ := h
  exact ⟨h1.below hb, ⟨tp, p, Joins.var_stays syn_named h2 hb (Nat.le_refl _)⟩, ⟨tp', p', Joins.var_stays ran_named h3 hb (Nat.le_refl _)⟩, m, (hb.cell (p := ⟨_, 0, none⟩) (Lib.lt_of_cell h4)).trans h4⟩

/-- What a call hands back that reads a number. -/
def NumPost (r : Option Int) (w : World) (e : Ending) (w' : World) : Prop := e = .returned (.tuple #[.int .i64 (r.getD 0), .bool r.isSome]) ∧ Below w.heap.size w w'

set_option maxHeartbeats 1600000 in
set_option maxRecDepth 100000 in
theorem number_any (l : List UInt8) (w : World) (hl : l.length ≤ 1048576) (hL : LibLay w) :
    Calls Tryd.prog 68 #[.string (strOf l)] w (NumPost (numL l) w) := by
  have hsz := strOf_size l
  cases ha : Lib.atoiAll l with
  | ok v =>
    obtain ⟨hb0, hb1⟩ := Lib.atoiAll_bounds ha
    have HA := Lib.hid ha
    have HB := Lib.hid hb0
    have HSZ := Lib.hid hsz
    clear ha hb0 hsz
    go_enter Tryd.func68, Tryd.ntmps68
    go_wp2_with fail
    refine (Tryd.strconv_Atoi_ok (strOf l) (by rw [HSZ.out]; omega) v (by rw [strOf_list]; exact HA.out) _).mono ?_
    rintro e w1 ⟨rfl, hw⟩
    have ht : Below w.heap.size w w1 := by
      rcases hw with rfl | ⟨t, rfl⟩
      · exact Below.refl _ _
      · exact Lib.bytesWorld_below _ _ _
    clear hw
    by_cases hv : v < 0
    · have HR := Lib.hid (show numL l = none by unfold numL; rw [HA.out]; exact if_neg fun h => by omega)
      go_wp2
      go_ret2
      exact ⟨by rw [HR.out]; rfl, ht⟩
    · have hv0 : 0 ≤ v := by omega
      go_wp2_with fail
      refine (itoa_any v _ (hL.tab.below ht) hv0 hb1).mono ?_
      rintro e w2 ⟨rfl, hb⟩
      replace ht := below_then ht hb ht.size
      clear hb
      by_cases he : digs v = l
      · have HR := Lib.hid (show numL l = some v by unfold numL; rw [HA.out]; exact if_pos ⟨hv0, by rw [itoa_digs hv0]; exact he⟩)
        have HE := Lib.hid he
        rw [he]
        clear he
        go_wp2
        go_ret2
        exact ⟨by rw [HR.out]; rfl, ht⟩
      · have HR := Lib.hid (show numL l = none by unfold numL; rw [HA.out]; exact if_neg fun h => he (by rw [← itoa_digs hv0]; exact h.2))
        have hne : (digs v == l) = false := beq_eq_false_iff_ne.2 he
        go_wp2
        go_ret2
        exact ⟨by rw [HR.out]; rfl, ht⟩
  | «syntax» =>
    have HR := Lib.hid (show numL l = none by unfold numL; rw [ha])
    obtain ⟨tp, p, hvar⟩ := hL.syn
    have HA := Lib.hid ha
    have HV := Lib.hid hvar
    have HSZ := Lib.hid hsz
    clear ha hvar hsz
    go_enter Tryd.func68, Tryd.ntmps68
    go_wp2_with fail
    refine (Tryd.strconv_Atoi_syntax_var (strOf l) (by rw [HSZ.out]; omega) (by rw [strOf_list]; exact HA.out) tp p _ HV.out).mono ?_
    rintro e w1 ⟨N, rfl, -, -, ht⟩
    go_wp2
    go_ret2
    exact ⟨by rw [HR.out]; rfl, ht⟩
  | range =>
    have HR := Lib.hid (show numL l = none by unfold numL; rw [ha])
    obtain ⟨tp, p, hvar⟩ := hL.ran
    have HA := Lib.hid ha
    have HV := Lib.hid hvar
    have HSZ := Lib.hid hsz
    clear ha hvar hsz
    go_enter Tryd.func68, Tryd.ntmps68
    go_wp2_with fail
    refine (Tryd.strconv_Atoi_range_var (strOf l) (by rw [HSZ.out]; omega) (by rw [strOf_list]; exact HA.out) tp p _ HV.out).mono ?_
    rintro e w1 ⟨N, rfl, -, -, ht⟩
    go_wp2
    go_ret2
    exact ⟨by rw [HR.out]; rfl, ht⟩

/-- The model's loop: what k digits tell. -/
theorem dec_step {l : List UInt8} {k m : Nat} {b : UInt8} (h : Lib.decFrom 0 (l.take k) = some m) (hb : l[k]? = some b) (h1 : 48 ≤ b.toNat) (h2 : b.toNat ≤ 57) : Lib.decFrom 0 (l.take (k + 1)) = some (m * 10 + (b.toNat - 48)) :=
  Lib.decFrom_take l k 0 m b (b.toNat - 48) h hb (by unfold Lib.digitVal; rw [if_pos ⟨h1, h2⟩])
theorem dec_bad {l : List UInt8} {k : Nat} {b : UInt8} (hb : l[k]? = some b) (h : b.toNat < 48 ∨ 57 < b.toNat) : Lib.decFrom 0 l = none := by
  cases hd : Lib.decFrom 0 l with
  | none => rfl
  | some n =>
    obtain ⟨d, hdv⟩ := Lib.digit_of_decFrom l 0 n hd k b hb
    obtain ⟨h1, h2, -⟩ := Lib.digitVal_eq hdv
    omega

theorem byte_at {l : List UInt8} {k : Nat} {b : UInt8} (hb : l[k]? = some b) (h : k < (strOf l).size) : (strOf l)[k]'h = b := by
  have e : l[k]'(by rw [strOf_size] at h; exact h) = b := (List.getElem?_eq_some_iff.1 hb).2
  rw [← e]
  simp [ByteArray.getElem_eq_getElem_data]

set_option maxHeartbeats 3200000 in
set_option maxRecDepth 100000 in
theorem l1Read_any (l : List UInt8) (w : World) (hl : l.length ≤ 1048576) :
    Calls Tryd.prog 120 #[.string (strOf l)] w fun e w' => e = .returned (.int .i64 (readL l)) ∧ w = w' := by
  by_cases hc : 1 ≤ l.length ∧ l.length ≤ 6
  · obtain ⟨b, hb0⟩ : ∃ b, l[0]? = some b := ⟨l[0], List.getElem?_eq_getElem (by omega)⟩
    have hh : l.head? = some b := by rw [← hb0, List.head?_eq_getElem?]
    have hix := fun h => byte_at hb0 h
    have HW := Lib.hid (within_yes (n := (l.length : Int)) (lo := 1) (hi := 6) (by omega) (by omega))
    by_cases hz : b = 48 ∧ 1 < l.length
    · have HR := Lib.hid (show readL l = -1 by unfold readL; exact if_neg fun h => h.2 ⟨by rw [hh, hz.1], hz.2⟩)
      obtain ⟨rfl, h1⟩ := hz
      have h1' : (l.length : Int) > 1 := by omega
      clear hb0 hh hc
      go_enter Tryd.func120, Tryd.ntmps120
      go_wp2_with fail
      refine (l1In_any _ _ _ _).mono ?_
      rintro e w' ⟨rfl, rfl⟩
      rw [HW.out]
      go_wp2
      go_ret
      exact ⟨by rw [HR.out]; rfl, rfl⟩
    · have HR := Lib.hid (show readL l = (match Lib.decFrom 0 l with | some n => (n : Int) | none => -1) by
        unfold readL
        exact if_pos ⟨hc, fun h => hz ⟨by have := h.1; rw [hh] at this; simpa using this, h.2⟩⟩)
      have hb48 : b ≠ 48 ∨ l.length = 1 := by
        by_cases h : b = 48
        · exact .inr (by have : ¬ 1 < l.length := fun e => hz ⟨h, e⟩; omega)
        · exact .inl h
      have HC := Lib.hid hc
      have hpos : 0 < l.length := by omega
      have hfin : ¬ ((b.toNat : Nat) : Int) = 48 ∨ (((b.toNat : Nat) : Int) = 48 ∧ ¬ ((l.length : Int) > 1)) := by
        rcases hb48 with h | h
        · left
          intro e
          have e2 : b.toNat = 48 := by omega
          exact h (UInt8.toNat_inj.1 (e2.trans rfl))
        · by_cases e : ((b.toNat : Nat) : Int) = 48
          · exact .inr ⟨e, by omega⟩
          · exact .inl e
      clear hb0 hh hc hz hb48
      go_enter Tryd.func120, Tryd.ntmps120
      go_wp2_with fail
      refine (l1In_any _ _ _ _).mono ?_
      rintro e w' ⟨rfl, rfl⟩
      rw [HW.out]
      rcases hfin with hf | ⟨hf, hf2⟩
      all_goals go_wp2
      all_goals
        clear hix hf
        go_loop [3, 4] (fun v i => ∃ k m : Nat, k ≤ l.length ∧ i = .int .i64 k ∧ v = .int .i64 m ∧ Lib.decFrom 0 (l.take k) = some m) (fun _ i => l.length - (intOf i).toNat)
        case atStart => exact ⟨0, 0, Nat.zero_le _, rfl, rfl, rfl⟩
        case round =>
          obtain ⟨k, m, hk, rfl, rfl, hd⟩ := hrel
          by_cases hlt : k < l.length
          · obtain ⟨c, hck⟩ : ∃ c, l[k]? = some c := ⟨_, List.getElem?_eq_getElem hlt⟩
            have hix := fun h => byte_at hck h
            have hk6 : k ≤ 5 := by have := HC.out; omega
            have hm6 : m < 1000000 := by
              have h1 := Lib.decFrom_lt _ _ _ hd
              rw [List.length_take] at h1
              have : 10 ^ (min k l.length) ≤ 10 ^ 5 := Nat.pow_le_pow_right (by omega) (by omega)
              omega
            have hc256 : c.toNat < 256 := c.toNat_lt
            have HBAD := Lib.hid (fun h => dec_bad hck h)
            have HSTEP := Lib.hid (fun h1 h2 => dec_step hd hck h1 h2)
            have hlt' : (k : Int) < (l.length : Int) := by omega
            clear hck hd
            rcases Nat.lt_or_ge c.toNat 48 with h48 | h48
            · have hlo : ((c.toNat : Nat) : Int) < 48 := by omega
              have HX := Lib.hid (HBAD.out (.inl h48))
              go_wp2
              go_ret
              exact ⟨by rw [HR.out, HX.out]; rfl, rfl⟩
            · rcases Nat.lt_or_ge 57 c.toNat with h57 | h57
              · have hlo : ¬ ((c.toNat : Nat) : Int) < 48 := by omega
                have hhi : ((c.toNat : Nat) : Int) > 57 := by omega
                have HX := Lib.hid (HBAD.out (.inr h57))
                go_wp2
                go_ret
                exact ⟨by rw [HR.out, HX.out]; rfl, rfl⟩
              · have hlo : ¬ ((c.toNat : Nat) : Int) < 48 := by omega
                have hhi : ¬ ((c.toNat : Nat) : Int) > 57 := by omega
                have HX := Lib.hid (HSTEP.out h48 h57)
                go_wp2
                go_round
                case rel => exact ⟨k + 1, m * 10 + (c.toNat - 48), by omega, by go_num, by congr 1; omega, HX.out⟩
                case measure => simp [intOf]; omega
          · obtain rfl : k = l.length := by omega
            rw [List.take_of_length_le (Nat.le_refl _)] at hd
            have HX := Lib.hid hd
            clear hd
            go_wp2
            go_ret
            exact ⟨by rw [HR.out, HX.out]; rfl, rfl⟩
  · have HR := Lib.hid (show readL l = -1 by unfold readL; exact if_neg fun h => hc h.1)
    have HW := Lib.hid (within_no (n := (l.length : Int)) (lo := 1) (hi := 6) (by omega))
    clear hc
    go_enter Tryd.func120, Tryd.ntmps120
    go_wp2_with fail
    refine (l1In_any _ _ _ _).mono ?_
    rintro e w' ⟨rfl, rfl⟩
    rw [HW.out]
    go_wp2
    go_ret
    exact ⟨by rw [HR.out]; rfl, rfl⟩
end Go.Proofs.YtedkanncdkofaaaDoor

namespace Go.Proofs.YtedkanncdkofaaaDoor
open Go.RowKit

theorem own_belowQ {w w' : World} {base : Nat} {e : TypeId} {size : Nat} {v : Value} {n : Nat} {xs : List Value} (h : w.ownsRow base e size v n xs) (hb : Below w.heap.size w w') : w'.ownsRow base e size v n xs := by
  obtain ⟨hl, h | ⟨g, cap, cur, hv, hg, hh, r⟩⟩ := h
  · exact ⟨hl, .inl h⟩
  · exact ⟨hl, .inr ⟨g, cap, cur, hv, hg, (hb.block g (Array.getElem?_eq_some_iff.1 hh).1).trans hh, r⟩⟩
theorem own_shapeQ {w : World} {base : Nat} {e : TypeId} {size : Nat} {v : Value} {n : Nat} {xs : List Value} (h : w.ownsRow base e size v n xs) : ∃ A c, v = .slice A n c := by
  obtain ⟨-, ⟨hv, hn⟩ | ⟨g, cap, cur, hv, -⟩⟩ := h
  · exact ⟨none, 0, by rw [hv, hn]⟩
  · exact ⟨_, _, hv⟩
theorem own_holdsQ {w : World} {base : Nat} {e : TypeId} {T : Option Addr} {n c : Nat} {xs : List Value} (h : w.ownsRow base e 1 (.slice T n c) n xs) : Holds w T xs ∧ n ≤ c := by
  obtain ⟨hl, ⟨hv, hn⟩ | ⟨g, cap, cur, hv, -, hh, h1, h2, h3, h4⟩⟩ := h
  · subst hn
    exact ⟨.inl (List.eq_nil_of_length_eq_zero (by simpa using hl)), Nat.zero_le _⟩
  · obtain ⟨rfl, rfl⟩ : T = some ⟨g, 0, none⟩ ∧ c = cap := by simpa using hv
    have hw : Whole w g e cur := hh
    refine ⟨.inr ⟨g, 0, rfl, hw.lt, fun j u hu => ?_⟩, h1⟩
    have hj : j < xs.length := (List.getElem?_eq_some_iff.1 hu).1
    rw [Nat.zero_add, hw.cell j, ← hu, ← h4, List.getElem?_take_of_lt (by omega), Array.getElem?_toList]
theorem whole_apartQ {w w' : World} {q : Nat} {ty : TypeId} {cs : Array Value} {row : Option Nat} (h : Whole w q ty cs) (hg : w.grownBy w' row) (hne : some q ≠ row) : Whole w' q ty cs := (hg.block q h.lt hne).trans h
theorem strs_snocQ (xs : List (List UInt8)) (x : List UInt8) : strs xs ++ [.string (strOf x)] = strs (xs ++ [x]) := by simp [strs]
theorem cell_one_newQ (w : World) (v : Value) (e : TypeId) : ∀ j u, [v][j]? = some u → (w.alloc (.cells #[v] e)).cell? ((⟨w.heap.size, 0, none⟩ : Addr).add j) = some u := by
  intro j u hu
  cases j with
  | zero =>
    simp at hu
    subst hu
    exact (Whole.fresh w e #[v]).cell 0
  | succ j => simp at hu
/-- append onto a list of the call's own, as a step of a region that draws its order. -/
theorem step_append_mineQ {P : Program} {ops : Array Oper} {o : Oper} {a : Act} {w : World} {K : Act → World → Prop} {Q : Exit → Act → World → Prop} {E : Prop}
    (hg : o.guard = none) (s x : Operand) (t : TypeId) (hop : o.op = Op.call { callee := Callee.builtin Builtin.append, args := #[s, x], argTypes := #[t, t] })
    (base : Nat) (e : TypeId) (i : TypeInfo) (z : Value) (size bytes : Nat) (h1 : P.underlying t = some (.slice e)) (h2 : P.info? e = some i) (h3 : i.zero = some z) (h4 : i.size = size) (h5 : i.bytes = bytes) (h6 : z.cells.size = size) (h7 : 0 < size)
    (v : Value) (n : Nat) (xs : List Value) (hs : a.eval s = v) (hown : w.ownsRow base e size v n xs)
    (ad : Addr) (m c : Nat) (news : List Value) (hx : a.eval x = .slice (some ad) m c) (hn : news.length = m * size) (hc : ∀ j u, news[j]? = some u → w.cell? (ad.add j) = some u) (h1c : ∀ u ∈ news, u.oneCell' = true)
    (b1 : n + m ≤ maxLen) (b2 : (n + m) * bytes ≤ 140737488355328) (b3 : base ≤ w.heap.size)
    (hK : ∀ v' w', w'.ownsRow base e size v' (n + m) (xs ++ news) → w.grownBy w' v.ownBlock → K (a.put o.dst v') w') :
    if Region.wanted o (yielded ops a.tmps) = true then Oper.wp P o a w K Q else E := by
  have hw : Region.wanted o (yielded ops a.tmps) = true := by simp [Region.wanted, hg]
  rw [if_pos hw]
  obtain ⟨v', w', hrun, r1, r2, _⟩ := run_append_own (P := P) w base t o.type e i z size bytes h1 h2 h3 h4 h5 h6 h7 v n xs hown ad m c news hn hc h1c b1 b2 b3
  unfold Oper.wp
  simp [execOp, hop, resolve, invoke, builtin, hs, hx, hrun, Result.andThen]
  exact hK v' w' r1 r2
end Go.Proofs.YtedkanncdkofaaaDoor

namespace Go.Proofs.YtedkanncdkofaaaDoor
open Go.RowKit

theorem extract_text (l : List UInt8) (f k : Nat) (_hk : k ≤ l.length) : (strOf l).extract f k = strOf ((l.drop f).take (k - f)) := by
  have h : ((strOf l).extract f k).data.toList = (l.drop f).take (k - f) := by
    rw [Lib.extract_data, strOf_list]
  generalize (strOf l).extract f k = X at h ⊢
  rw [← h]
/-- A piece is told where its end is come to. -/
theorem piece_next {c : UInt8} {l : List UInt8} {f k : Nat} (hf : f ≤ k) (hk : l[k]? = some c) (hno : c ∉ (l.drop f).take (k - f)) : pieces c (l.drop f) = (l.drop f).take (k - f) :: pieces c (l.drop (k + 1)) := by
  have hkl : k < l.length := (List.getElem?_eq_some_iff.1 hk).1
  have e : l.drop f = (l.drop f).take (k - f) ++ c :: l.drop (k + 1) := by
    conv => lhs; rw [← List.take_append_drop (k - f) (l.drop f)]
    congr 1
    rw [List.drop_drop, show f + (k - f) = k by omega, List.drop_eq_getElem_cons hkl]
    congr 1
    exact (List.getElem?_eq_some_iff.1 hk).2
  conv => lhs; rw [e]
  exact pieces_app _ hno
theorem piece_same {c b : UInt8} {l : List UInt8} {f k : Nat} (hf : f ≤ k) (hk : l[k]? = some b) (hb : b ≠ c) (hno : c ∉ (l.drop f).take (k - f)) : c ∉ (l.drop f).take (k + 1 - f) := by
  have hkl : k < l.length := (List.getElem?_eq_some_iff.1 hk).1
  have hlt : k - f < (l.drop f).length := by rw [List.length_drop]; omega
  rw [show k + 1 - f = (k - f) + 1 by omega, List.take_succ_eq_append_getElem hlt, List.mem_append, not_or]
  refine ⟨hno, ?_⟩
  have e : (l.drop f)[k - f] = b := by
    rw [List.getElem_drop, ← (List.getElem?_eq_some_iff.1 hk).2]
    congr 1
    omega
  rw [e]
  simp
  exact fun h => hb h.symm
/-- What a call hands back that makes a list of texts. -/
def StrsPost (xs : List (List UInt8)) (w : World) (e : Ending) (w' : World) : Prop := ∃ G z, e = .returned (.slice G xs.length z) ∧ w'.ownsRow w.heap.size 9 1 (.slice G xs.length z) xs.length (strs xs) ∧ Below w.heap.size w w'

set_option maxHeartbeats 3200000 in
set_option maxRecDepth 100000 in
theorem l1Split_any (l : List UInt8) (c : UInt8) (w : World) (hl : l.length ≤ 1048576) :
    Calls Tryd.prog 119 #[.string (strOf l), .int .u8 ((c.toNat : Nat) : Int)] w (StrsPost (pieces c l) w) := by
  obtain ⟨i0, hi, hz0, hz1, hz2⟩ := info_parts info_string
  have HI := Lib.hid hi
  have HZ0 := Lib.hid hz0
  have HZ1 := Lib.hid hz1
  have HZ2 := Lib.hid hz2
  clear hi hz0 hz1 hz2
  go_enter Tryd.func119, Tryd.ntmps119
  go_wp2
  go_loopw [5, 6, 7] (fun v f i wr => ∃ (k q : Nat) (D : List (List UInt8)) (G : Option Addr) (z : Nat), k ≤ l.length ∧ q ≤ k ∧ D.length ≤ q ∧ i = .int .i64 k ∧ f = .int .i64 q ∧ v = .slice G D.length z ∧ wr.ownsRow w.heap.size 9 1 (.slice G D.length z) D.length (strs D) ∧ pieces c l = D ++ pieces c (l.drop q) ∧ c ∉ (l.drop q).take (k - q) ∧ Below w.heap.size w wr) (fun _ _ i _ => l.length - (intOf i).toNat)
  case atStart => exact ⟨0, 0, [], none, 0, Nat.zero_le _, Nat.le_refl _, Nat.le_refl _, rfl, rfl, rfl, World.ownsRow_nil _ _ _ _, rfl, by simp, Below.refl _ _⟩
  case round =>
    obtain ⟨k, q, D, G, z, hk, hq, hD, rfl, rfl, rfl, hown, hp, hno, hb⟩ := hrel
    have HP := Lib.hid hp
    have hsz := hb.size
    clear hp
    by_cases hlt : k < l.length
    · obtain ⟨b, hbk⟩ : ∃ b, l[k]? = some b := ⟨_, List.getElem?_eq_getElem hlt⟩
      have hix := fun h => byte_at hbk h
      by_cases he : b = c
      · subst he
        have HN := Lib.hid (piece_next hq hbk hno)
        have hext := extract_text l q k hk
        have hlt' : (k : Int) < (l.length : Int) := by omega
        have hqk : (q : Int) ≤ (k : Int) := by omega
        generalize hP : (l.drop q).take (k - q) = P at hext HN
        have HOW := Lib.hid (hown.alloc (.cells #[.string (strOf P)] 9))
        have HBB := Lib.hid (hb.alloc hb.size (.cells #[.string (strOf P)] 9))
        have HBASE := Lib.hid (show w.heap.size ≤ (wr.alloc (.cells #[.string (strOf P)] 9)).heap.size by simp; omega)
        have HMAX := Lib.hid (show D.length + 1 ≤ maxLen by unfold maxLen; omega)
        have HBYT := Lib.hid (show (D.length + 1) * 16 ≤ 140737488355328 by omega)
        clear hown hb hno hP hbk
        go_wp2_with (at_builtin; refine wpList_append_own _ rfl (.tmp 19) (.tmp 24) 89 rfl w.heap.size 9 i0 (.string ByteArray.empty) 1 16 Tryd.underlying89 HI.out HZ0.out HZ1.out HZ2.out rfl (by decide) (.slice G D.length z) D.length (strs D) rfl HOW.out ⟨wr.heap.size, 0, none⟩ 1 1 [.string (strOf P)] rfl rfl (cell_one_newQ _ _ _) (by simp [Value.oneCell']) HMAX.out HBYT.out HBASE.out ?_; intro v' w3 hown1 hg1 _; obtain ⟨E, y, hv'⟩ := own_shapeQ hown1; rw [hv'] at hown1 ⊢; clear hv')
        have HBN := Lib.hid (HBB.out.grown hg1 HBASE.out (fun kk e => (HOW.out.lt _ e).1))
        have HON : Hid (w3.ownsRow w.heap.size 9 1 (.slice E (D ++ [P]).length y) (D ++ [P]).length (strs (D ++ [P]))) := by
          show World.ownsRow _ _ _ _ _ _ _
          rw [← strs_snocQ, List.length_append]
          exact hown1
        have HPN := Lib.hid (show pieces b l = (D ++ [P]) ++ pieces b (l.drop (k + 1)) by rw [HP.out, HN.out]; simp)
        have HLN := Lib.hid (show (D ++ [P]).length = D.length + 1 by simp)
        clear hg1 hown1 hext hix
        go_roundw
        case rel => exact ⟨k + 1, k + 1, D ++ [P], E, y, by omega, Nat.le_refl _, by rw [HLN.out]; omega, by go_num, by go_num, by rw [HLN.out], HON.out, HPN.out, by simp, HBN.out⟩
        case measure => simp [intOf]; omega
      · have HN := Lib.hid (piece_same hq hbk he hno)
        have hne : ¬ ((b.toNat : Nat) : Int) = ((c.toNat : Nat) : Int) := fun h => he (UInt8.toNat_inj.1 (by omega))
        have hlt' : (k : Int) < (l.length : Int) := by omega
        have HOW := Lib.hid hown
        clear hown hno hbk
        go_wp2
        go_roundw
        case rel => exact ⟨k + 1, q, D, G, z, by omega, by omega, hD, by go_num, rfl, rfl, HOW.out, HP.out, HN.out, hb⟩
        case measure => simp [intOf]; omega
    · obtain rfl : k = l.length := by omega
      have hext := extract_text l q l.length (Nat.le_refl _)
      rw [List.take_of_length_le (by rw [List.length_drop]; exact Nat.le_refl _)] at hext hno
      have HN := Lib.hid (pieces_none hno)
      have hqk : (q : Int) ≤ (l.length : Int) := by omega
      generalize l.drop q = P at hext HN HP
      have HOW := Lib.hid (hown.alloc (.cells #[.string (strOf P)] 9))
      have HBB := Lib.hid (hb.alloc hb.size (.cells #[.string (strOf P)] 9))
      have HBASE := Lib.hid (show w.heap.size ≤ (wr.alloc (.cells #[.string (strOf P)] 9)).heap.size by simp; omega)
      have HMAX := Lib.hid (show D.length + 1 ≤ maxLen by unfold maxLen; omega)
      have HBYT := Lib.hid (show (D.length + 1) * 16 ≤ 140737488355328 by omega)
      clear hown hb hno
      go_wp2_with (at_builtin; refine wpList_append_own _ rfl (.tmp 28) (.tmp 32) 89 rfl w.heap.size 9 i0 (.string ByteArray.empty) 1 16 Tryd.underlying89 HI.out HZ0.out HZ1.out HZ2.out rfl (by decide) (.slice G D.length z) D.length (strs D) rfl HOW.out ⟨wr.heap.size, 0, none⟩ 1 1 [.string (strOf P)] rfl rfl (cell_one_newQ _ _ _) (by simp [Value.oneCell']) HMAX.out HBYT.out HBASE.out ?_; intro v' w3 hown1 hg1 _; obtain ⟨E, y, hv'⟩ := own_shapeQ hown1; rw [hv'] at hown1 ⊢; clear hv')
      have HBN := Lib.hid (HBB.out.grown hg1 HBASE.out (fun kk e => (HOW.out.lt _ e).1))
      have HPN := Lib.hid (show pieces c l = D ++ [P] by rw [HP.out, HN.out])
      have HON : Hid (w3.ownsRow w.heap.size 9 1 (.slice E (pieces c l).length y) (pieces c l).length (strs (pieces c l))) := by
        show World.ownsRow _ _ _ _ _ _ _
        rw [HPN.out, ← strs_snocQ, List.length_append]
        exact hown1
      have HLN := Lib.hid (show (pieces c l).length = D.length + 1 by rw [HPN.out]; simp)
      clear hg1 hown1 hext
      try go_wp2
      go_ret
      exact ⟨E, y, by rw [HLN.out]; rfl, HON.out, HBN.out⟩
end Go.Proofs.YtedkanncdkofaaaDoor

namespace Go.Proofs.YtedkanncdkofaaaDoor
open Go.RowKit

theorem pieces_len_le (c : UInt8) : ∀ l : List UInt8, (pieces c l).length ≤ l.length + 1 := by
  intro l
  induction l with
  | nil => simp [pieces]
  | cons x r ih =>
    unfold pieces
    split
    · simp; omega
    · split
      · simp
      · rename_i q qs hq
        rw [hq] at ih
        simp at ih ⊢
        omega
/-- All words as numbers, if all are. -/
def allNum (ps : List (List UInt8)) : Option (List Int) := if ps.all (fun p => (numL p).isSome) then some (ps.map fun p => (numL p).getD 0) else none
/-- What parseWords tells of a text. -/
def wordsL (c : UInt8) (most : Nat) (t : List UInt8) : Option (List Int) := if t = [] then some [] else if (pieces c t).length ≤ most then allNum (pieces c t) else none
theorem texts_of {S : List ByteArray} {P : List (List UInt8)} (h : S.map (·.data.toList) = P) : S = P.map strOf := by
  rw [← h, List.map_map]
  conv => lhs; rw [← List.map_id S]
  apply List.map_congr_left
  intro x _
  simp
theorem split_few {c : UInt8} {t : List UInt8} {most : Nat} (h : (pieces c t).length ≤ most) : Lib.splitB (strOf [c]) 0 (min (most + 1) (t.length + 1) - 1) (strOf t) = (pieces c t).map strOf := by
  apply texts_of
  rw [Lib.splitB_data, strOf_list, strOf_list]
  have := pieces_len_le c t
  have h0 := List.length_pos_iff.2 (pieces_ne c t)
  exact (split_at c _ t).1 (by omega)
theorem split_many {c : UInt8} {t : List UInt8} {most : Nat} (h : most < (pieces c t).length) : (Lib.splitB (strOf [c]) 0 (min (most + 1) (t.length + 1) - 1) (strOf t)).length = most + 1 := by
  have e : (Lib.splitB (strOf [c]) 0 (min (most + 1) (t.length + 1) - 1) (strOf t)).length = (Lib.splitK [c] 0 (min (most + 1) (t.length + 1) - 1) t).length := by
    rw [← strOf_list t, ← strOf_list [c], ← Lib.splitB_data, List.length_map, strOf_list, strOf_list]
  rw [e]
  have := pieces_len_le c t
  obtain ⟨h1, h2⟩ := split_at c (min (most + 1) (t.length + 1) - 1) t
  rcases Nat.lt_or_ge (min (most + 1) (t.length + 1) - 1 + 1) (pieces c t).length with hh | hh
  · rw [h2 hh]; omega
  · rw [h1 hh]; omega
theorem cellsOf_at {S : List ByteArray} {N k : Nat} (h : k < S.length) : (Lib.cellsOf S N)[k]? = some (.string S[k]) := by
  unfold Lib.cellsOf
  rw [List.getElem?_toArray, List.getElem?_append_left (by simpa using h), List.getElem?_map, List.getElem?_eq_getElem h]
  rfl
theorem piece_le {c : UInt8} : ∀ {l p : List UInt8}, p ∈ pieces c l → p.length ≤ l.length := by
  intro l
  induction l with
  | nil => intro p hp; simp [pieces] at hp; subst hp; simp
  | cons x r ih =>
    intro p hp
    unfold pieces at hp
    split at hp
    · rcases List.mem_cons.1 hp with rfl | h
      · simp
      · have := ih h
        simp; omega
    · split at hp
      · simp at hp; subst hp; simp
      · rename_i q qs hq
        rcases List.mem_cons.1 hp with rfl | h
        · have := ih (p := q) (by rw [hq]; simp)
          simp; omega
        · have := ih (p := p) (by rw [hq]; exact List.mem_cons_of_mem _ h)
          simp; omega
theorem own_lowQ {w : World} {base base' size : Nat} {e : TypeId} {v : Value} {n : Nat} {xs : List Value} (h : w.ownsRow base e size v n xs) (hb : base' ≤ base) : w.ownsRow base' e size v n xs := by
  obtain ⟨hl, h | ⟨g, cap, cur, hv, hg, r⟩⟩ := h
  · exact ⟨hl, .inl h⟩
  · exact ⟨hl, .inr ⟨g, cap, cur, hv, Nat.le_trans hb hg, r⟩⟩
/-- What a call hands back that reads numbers. -/
def WordsPost (r : Option (List Int)) (w : World) (e : Ending) (w' : World) : Prop := ∃ G z, e = .returned (.tuple #[.slice G (r.getD []).length z, .bool r.isSome]) ∧ w'.ownsRow w.heap.size 3 1 (.slice G (r.getD []).length z) (r.getD []).length (nums (r.getD [])) ∧ Below w.heap.size w w'
theorem WordsPost.no {w w' : World} (h : Below w.heap.size w w') : WordsPost none w (.returned (.tuple #[.slice none 0 0, .bool false])) w' := ⟨none, 0, rfl, World.ownsRow_nil _ _ _ _, h⟩
theorem WordsPost.none_ {w w' : World} (h : Below w.heap.size w w') : WordsPost (some []) w (.returned (.tuple #[.slice none 0 0, .bool true])) w' := ⟨none, 0, rfl, World.ownsRow_nil _ _ _ _, h⟩

set_option maxHeartbeats 3200000 in
set_option maxRecDepth 100000 in
theorem parseWords_any (t : List UInt8) (c : UInt8) (most : Nat) (w : World) (hl : t.length ≤ 1048576) (hm : most ≤ 1000) (hL : LibLay w) :
    Calls Tryd.prog 69 #[.string (strOf t), .string (strOf [c]), .int .i64 most, .func (.func 68) #[] #[]] w (WordsPost (wordsL c most t) w) := by
  by_cases h0 : t = []
  · have HR := Lib.hid (show wordsL c most t = some [] by unfold wordsL; rw [if_pos h0])
    subst h0
    go_enter Tryd.func69, Tryd.ntmps69
    go_wp2
    go_ret2
    rw [HR.out]
    exact WordsPost.none_ (Below.refl _ _)
  · have hbe : (t == []) = false := beq_eq_false_iff_ne.2 h0
    obtain ⟨m, hmax⟩ := hL.max
    have HM := Lib.hid hmax
    have hmw : ((most : Int) + 1) = ((most + 1 : Nat) : Int) := by omega
    have HMW := Lib.hid hmw
    clear hmax hmw
    go_enter Tryd.func69, Tryd.ntmps69
    go_wp2_with fail
    rw [HMW.out]
    refine (Tryd.strings_SplitN (strOf t) (strOf [c]) (most + 1) m _ (by rw [strOf_size]; omega) HM.out (by rw [strOf_size]; simp) (by omega) (by omega)).mono ?_
    rintro e w1 ⟨rfl, rfl⟩
    rw [strOf_size]
    by_cases hp : (pieces c t).length ≤ most
    · have HR := Lib.hid (show wordsL c most t = allNum (pieces c t) by unfold wordsL; rw [if_neg h0, if_pos hp])
      rw [split_few hp]
      have hfree : ∀ p ∈ pieces c t, p.length ≤ 1048576 := fun p hpm => Nat.le_trans (piece_le hpm) hl
      have hN : (pieces c t).length ≤ min (most + 1) (t.length + 1) := by have := pieces_len_le c t; omega
      have hN2 : min (most + 1) (t.length + 1) ≤ 1001 := by omega
      generalize min (most + 1) (t.length + 1) = N at hN hN2 ⊢
      generalize pieces c t = ps at HR hp hfree hN ⊢
      have hG := Whole.fresh w 9 (Lib.cellsOf (ps.map strOf) N)
      have ht := below1 w (.cells (Lib.cellsOf (ps.map strOf) N) 9)
      have hpl : (ps.map strOf).length = ps.length := List.length_map _
      rw [hpl]
      generalize World.alloc w (.cells (Lib.cellsOf (ps.map strOf) N) 9) = w1 at hG ht ⊢
      have hgl := hG.lt
      have hwz := ht.size
      have HF := Lib.hid hfree
      have hle : ¬ ((ps.length : Int) > (most : Int)) := by omega
      have hle2 : decide (most < ps.length) = false := decide_eq_false (by omega)
      obtain ⟨i0, hi, hz0, hz1, hz2⟩ := info_parts info_int
      have HI := Lib.hid hi
      have HZ0 := Lib.hid hz0
      have HZ1 := Lib.hid hz1
      have HZ2 := Lib.hid hz2
      clear hpl hfree hi hz0 hz1 hz2
      go_wp2
      go_loopw [11, 29] (fun v i wr => ∃ (k : Nat) (G : Option Addr) (z : Nat), k ≤ ps.length ∧ i = .int .i64 k ∧ v = .slice G k z ∧ wr.ownsRow (w.heap.size + 1) 3 1 (.slice G k z) k (nums ((ps.take k).map fun p => (numL p).getD 0)) ∧ (∀ p ∈ ps.take k, (numL p).isSome = true) ∧ Whole wr w.heap.size 9 (Lib.cellsOf (ps.map strOf) N) ∧ Below w.heap.size w wr) (fun _ i _ => ps.length - (intOf i).toNat)
      case atStart => exact ⟨0, none, 0, Nat.zero_le _, rfl, rfl, World.ownsRow_nil _ _ _ _, by simp, hG, ht⟩
      case round =>
        obtain ⟨k, G, z, hk, rfl, rfl, hown, hall, hg, hb⟩ := hrel
        clear hG ht
        by_cases hlt : k < ps.length
        · have hkS : k < (ps.map strOf).length := by simpa using hlt
          have hcell := (hg.cell k).trans (cellsOf_at hkS)
          rw [List.getElem_map] at hcell
          have hxl := HF.out ps[k] (List.getElem_mem hlt)
          have HT := Lib.hid (List.take_succ_eq_append_getElem hlt)
          have HBAD := Lib.hid (fun h : numL ps[k] = none => (show allNum ps = none by
            unfold allNum
            rw [if_neg]
            intro e
            have := List.all_eq_true.1 e _ (List.getElem_mem hlt)
            rw [h] at this
            cases this))
          generalize ps[k] = x at hcell hxl HT HBAD
          have hbl := hg.lt
          have hsz := hb.size
          have HOW := Lib.hid hown
          have HAL := Lib.hid hall
          clear hown hall
          go_wp2_with fail
          refine (number_any x _ hxl (hL.below hb)).mono ?_
          rintro e w2 ⟨rfl, hbi⟩
          have hb2 := below_then hb hbi hb.size
          have hg2 := hg.below hbi
          have hown2 := own_belowQ HOW.out hbi
          have hsz2 := hbi.size
          clear hb hg hbi hcell
          cases hx : numL x with
          | none =>
            have HX := Lib.hid (HBAD.out hx)
            go_wp2
            go_ret2
            rw [HR.out, HX.out]
            exact WordsPost.no hb2
          | some v =>
            have HOX := Lib.hid (hown2.alloc (.cells #[.int .i64 v] 3))
            have HBB := Lib.hid (hb2.alloc hb2.size (.cells #[.int .i64 v] 3))
            have HGG := Lib.hid (hg2.alloc (.cells #[.int .i64 v] 3))
            have HBASE := Lib.hid (show w.heap.size + 1 ≤ (w2.alloc (.cells #[.int .i64 v] 3)).heap.size by simp; omega)
            have HMAX := Lib.hid (show k + 1 ≤ maxLen by unfold maxLen; omega)
            have HBYT := Lib.hid (show (k + 1) * 8 ≤ 140737488355328 by omega)
            have HX := Lib.hid hx
            clear hx hown2 hb2 hg2
            go_wp2_with (at_builtin; refine wpList_append_own _ rfl (.tmp 41) (.tmp 43) 22 rfl (w.heap.size + 1) 3 i0 (.int .i64 0) 1 8 Tryd.underlying22 HI.out HZ0.out HZ1.out HZ2.out rfl (by decide) (.slice G k z) k (nums ((ps.take k).map fun p => (numL p).getD 0)) rfl HOX.out ⟨w2.heap.size, 0, none⟩ 1 1 [.int .i64 v] rfl rfl (cell_one_newQ _ _ _) (by simp [Value.oneCell']) HMAX.out HBYT.out HBASE.out ?_; intro v' w3 hown1 hg1 _; obtain ⟨E, y, hv'⟩ := own_shapeQ hown1; rw [hv'] at hown1 ⊢; clear hv')
            have hrow : ∀ y, (.slice G k z : Value).ownBlock = some y → w.heap.size + 1 ≤ y := fun y hy => (HOX.out.lt y hy).1
            have HBN := Lib.hid (HBB.out.grown hg1 HBB.out.size (fun y hy => by have := hrow y hy; omega))
            have HGN := Lib.hid (whole_apartQ HGG.out hg1 (fun e => absurd (hrow _ e.symm) (by omega)))
            have HON : Hid (w3.ownsRow (w.heap.size + 1) 3 1 (.slice E (k + 1) y) (k + 1) (nums ((ps.take (k + 1)).map fun p => (numL p).getD 0))) := by
              show World.ownsRow _ _ _ _ _ _ _
              rw [HT.out, List.map_append, List.map_cons, List.map_nil, HX.out, show nums (((ps.take k).map fun p => (numL p).getD 0) ++ [(some v).getD 0]) = nums ((ps.take k).map fun p => (numL p).getD 0) ++ [.int .i64 v] by simp [nums]]
              exact hown1
            have HALN : Hid (∀ p ∈ ps.take (k + 1), (numL p).isSome = true) := by
              show ∀ p ∈ ps.take (k + 1), (numL p).isSome = true
              rw [HT.out]
              intro p hp
              rcases List.mem_append.1 hp with h | h
              · exact HAL.out p h
              · obtain rfl : p = x := by simpa using h
                rw [HX.out]; rfl
            clear hg1 hown1 hrow
            go_roundw
            case rel => exact ⟨k + 1, E, y, by omega, by go_num, rfl, HON.out, HALN.out, HGN.out, HBN.out⟩
            case measure => simp [intOf]; omega
        · obtain rfl : k = ps.length := by omega
          rw [List.take_of_length_le (Nat.le_refl _)] at hown hall
          have HX := Lib.hid (show allNum ps = some (ps.map fun p => (numL p).getD 0) by
            unfold allNum
            rw [if_pos (List.all_eq_true.2 hall)])
          have HO := Lib.hid hown
          clear hown hall
          go_wp2
          go_ret2
          rw [HR.out, HX.out]
          exact ⟨G, z, by simp, own_lowQ (by simpa using HO.out) (by omega), hb⟩
    · have HR := Lib.hid (show wordsL c most t = none by unfold wordsL; rw [if_neg h0, if_neg hp])
      have hS := split_many (c := c) (t := t) (most := most) (by omega)
      generalize Lib.splitB (strOf [c]) 0 (min (most + 1) (t.length + 1) - 1) (strOf t) = S at hS ⊢
      rw [hS]
      have hgt : ((most + 1 : Nat) : Int) > (most : Int) := by omega
      have ht := below1 w (.cells (Lib.cellsOf S (min (most + 1) (t.length + 1))) 9)
      generalize World.alloc w (.cells (Lib.cellsOf S (min (most + 1) (t.length + 1))) 9) = w1 at ht ⊢
      generalize min (most + 1) (t.length + 1) = N
      go_wp2
      go_ret2
      rw [HR.out]
      exact WordsPost.no ht
end Go.Proofs.YtedkanncdkofaaaDoor

namespace Go.Proofs.YtedkanncdkofaaaDoor

/-- The party that the program reads. -/
def partyI (s : List UInt8) : Option (List Int × Int) :=
  match numL (Lib.cut s [58]).1, wordsL 44 8 (Lib.cut s [58]).2.1 with
  | some v, some xs => if isParty xs v then some (xs, v) else none
  | _, _ => none
/-- The party that the model reads. -/
def partyM (s : List UInt8) : Option (List Int × Int) :=
  if s.length ≤ 60 ∧ (pieces 58 s).length = 2 then
    if isParty ((pieces 44 ((pieces 58 s).getD 1 [])).map readL) (readL ((pieces 58 s).getD 0 [])) then some ((pieces 44 ((pieces 58 s).getD 1 [])).map readL, readL ((pieces 58 s).getD 0 [])) else none
  else none
theorem pieces_sum (c : UInt8) : ∀ l : List UInt8, l.length + 1 = ((pieces c l).map fun p => p.length + 1).sum := by
  intro l
  induction l with
  | nil => simp [pieces]
  | cons x r ih =>
    unfold pieces
    split
    · simp only [List.map_cons, List.sum_cons, List.length_nil, List.length_cons]
      omega
    · split
      · rename_i hq
        exact absurd hq (pieces_ne c r)
      · rename_i q qs hq
        rw [hq] at ih
        simp only [List.map_cons, List.sum_cons, List.length_cons] at ih ⊢
        omega
theorem sum_le {ls : List Nat} {m : Nat} (h : ∀ x ∈ ls, x ≤ m) : ls.sum ≤ ls.length * m := by
  induction ls with
  | nil => simp
  | cons x r ih =>
    have h1 := h x List.mem_cons_self
    have h2 := ih fun y hy => h y (List.mem_cons_of_mem _ hy)
    simp only [List.sum_cons, List.length_cons, Nat.add_mul]
    omega
theorem num_no {l : List UInt8} {b : UInt8} (hb : b ∈ l) (h : b.toNat < 48 ∨ 57 < b.toNat) : numL l = none := by
  cases hn : numL l with
  | none => rfl
  | some v =>
    obtain ⟨-, hl, -⟩ := numL_some hn
    rw [hl] at hb
    have := digits_all _ b hb
    omega
theorem allNum_no {ps : List (List UInt8)} {p : List UInt8} (hp : p ∈ ps) (h : numL p = none) : allNum ps = none := by
  unfold allNum
  rw [if_neg]
  intro e
  have := List.all_eq_true.1 e p hp
  rw [h] at this
  cases this
theorem read_len {p : List UInt8} {k : Nat} (h0 : 0 ≤ readL p) (h : readL p < (10 : Int) ^ (k + 1)) : p.length ≤ k + 1 := by
  obtain ⟨n, hr, hl, -⟩ := readL_some h0
  rw [hl]
  refine decDigits_le k n ?_
  rw [hr] at h
  exact_mod_cast h
theorem isParty_parts {xs : List Int} {s : Int} : isParty xs s = true ↔ (1 ≤ xs.length ∧ xs.length ≤ 8) ∧ (∀ x ∈ xs, 1 ≤ x ∧ x ≤ 1000) ∧ (1 ≤ s ∧ s ≤ 3) := by
  simp only [isParty, within, allIn, Bool.and_eq_true, decide_eq_true_eq, List.all_eq_true]
  constructor
  · rintro ⟨h1, h2, h3⟩
    exact ⟨by omega, h2, h3⟩
  · rintro ⟨h1, h2, h3⟩
    exact ⟨by omega, h2, h3⟩
theorem isParty_nil (s : Int) : isParty [] s = false := by
  cases h : isParty [] s
  · rfl
  · have := (isParty_parts.1 h).1.1
    simp at this
theorem party_same (s : List UInt8) : partyM s = partyI s := by
  by_cases hc : (58 : UInt8) ∈ s
  · obtain ⟨a, t, rfl, ha⟩ := first_of hc
    have hcut := cut_at t ha
    have hps := pieces_app t ha
    unfold partyI partyM
    rw [hcut, hps]
    dsimp only
    by_cases ht : (58 : UInt8) ∈ t
    · have h3 : ¬ ((a :: pieces 58 t).length = 2) := by
        obtain ⟨b, r, rfl, hb⟩ := first_of ht
        rw [pieces_app r hb]
        have := List.length_pos_iff.2 (pieces_ne 58 r)
        simp only [List.length_cons]
        omega
      rw [if_neg fun h => h3 h.2]
      have hw : wordsL 44 8 t = none := by
        unfold wordsL
        rw [if_neg (by rintro rfl; cases ht)]
        split
        · obtain ⟨p, hp, hdp⟩ := pieces_mem (c := 44) (by decide) ht
          exact allNum_no hp (num_no hdp (by decide))
        · rfl
      rw [hw]
      cases numL a <;> rfl
    · rw [pieces_none ht]
      simp only [List.getD_cons_zero, List.getD_cons_succ, List.length_cons, List.length_nil]
      by_cases h0 : t = []
      · subst h0
        have hw : wordsL 44 8 [] = some [] := by unfold wordsL; rw [if_pos rfl]
        have hr : readL [] = -1 := by unfold readL; exact if_neg fun h => by simp at h
        have hno : isParty ((pieces 44 ([] : List UInt8)).map readL) (readL a) = false := by
          cases h : isParty ((pieces 44 ([] : List UInt8)).map readL) (readL a)
          · rfl
          · have := (isParty_parts.1 h).2.1 (-1) (by simp [pieces, hr])
            omega
        rw [hno, hw]
        cases hn : numL a with
        | none => simp
        | some v => simp [isParty_nil]
      · generalize hpe : pieces 44 t = ps
        have hsum := pieces_sum 44 t
        rw [hpe] at hsum
        cases hM : isParty (ps.map readL) (readL a)
        · have hL : ∀ (b : Prop) [Decidable b], (if b then (if (false = true) then some (ps.map readL, readL a) else none) else none) = (none : Option (List Int × Int)) := by
            intro b _
            split <;> simp
          rw [hL]
          have hI : ∀ v xs, numL a = some v → wordsL 44 8 t = some xs → isParty xs v = false := by
            intro v xs hv hx
            cases h : isParty xs v
            · rfl
            · exfalso
              obtain ⟨h1, h2, h3⟩ := isParty_parts.1 h
              unfold wordsL at hx
              rw [if_neg h0, hpe] at hx
              split at hx
              · unfold allNum at hx
                split at hx
                · rename_i hall
                  have hxs : xs = ps.map fun p => (numL p).getD 0 := (Option.some.inj hx).symm
                  have hsame : ps.map readL = xs := by
                    rw [hxs]
                    apply List.map_congr_left
                    intro p hp
                    have hs := List.all_eq_true.1 hall p hp
                    obtain ⟨u, hu⟩ := Option.isSome_iff_exists.1 hs
                    have hb := h2 u (by rw [hxs]; exact List.mem_map.2 ⟨p, hp, by rw [hu]; rfl⟩)
                    rw [hu, read_of_num hu (by omega)]
                    rfl
                  rw [hsame, read_of_num hv (by omega), h] at hM
                  cases hM
                · cases hx
              · cases hx
          split
          · rename_i v xs hv hx
            rw [hI v xs hv hx]
            simp
          · simp
        · obtain ⟨h1, h2, h3⟩ := isParty_parts.1 hM
          rw [List.length_map] at h1
          have hra := num_of_read (l := a) (by omega)
          have hrp : ∀ p ∈ ps, numL p = some (readL p) := fun p hp => (num_of_read (by have := h2 _ (List.mem_map.2 ⟨p, hp, rfl⟩); omega)).1
          have hall : allNum ps = some (ps.map readL) := by
            unfold allNum
            rw [if_pos (List.all_eq_true.2 fun p hp => by rw [hrp p hp]; rfl)]
            congr 1
            apply List.map_congr_left
            intro p hp
            rw [hrp p hp]
            rfl
          have hw : wordsL 44 8 t = some (ps.map readL) := by
            unfold wordsL
            rw [if_neg h0, hpe, if_pos h1.2, hall]
          rw [hra.1, hw]
          dsimp only
          rw [hM, if_pos rfl, if_pos]
          refine ⟨?_, trivial⟩
          have hal : a.length ≤ 1 := read_len (k := 0) (by omega) (by omega)
          have hlp : ∀ x ∈ ps.map (fun p => p.length + 1), x ≤ 5 := by
            intro x hx
            obtain ⟨p, hp, rfl⟩ := List.mem_map.1 hx
            have hb := h2 _ (List.mem_map.2 ⟨p, hp, rfl⟩)
            have := read_len (p := p) (k := 3) (by omega) (by omega)
            omega
          have hs := sum_le hlp
          rw [List.length_map] at hs
          simp only [List.length_append, List.length_cons]
          omega
  · unfold partyI partyM
    rw [cut_out hc, pieces_none hc]
    dsimp only
    rw [if_neg (by simp)]
    have hw : wordsL 44 8 [] = some [] := by unfold wordsL; rw [if_pos rfl]
    rw [hw]
    cases numL s with
    | none => rfl
    | some v => simp [isParty_nil]
end Go.Proofs.YtedkanncdkofaaaDoor

namespace Go.Proofs.YtedkanncdkofaaaDoor
open Go.RowKit

/-- What a call hands back that reads a party. -/
def ParPost (r : Option (List Int × Int)) (w : World) (e : Ending) (w' : World) : Prop :=
  ∃ (A : Option Addr) (c : Nat), e = .returned (.tuple #[.agg #[.slice A ((r.map (·.1)).getD []).length c, .int .i64 ((r.map (·.2)).getD 0)], .bool r.isSome]) ∧ Fresh w' w.heap.size w'.heap.size 3 A (nums ((r.map (·.1)).getD [])) ∧ Below w.heap.size w w'
theorem ParPost.no {w w' : World} (h : Below w.heap.size w w') : ParPost none w (.returned (.tuple #[.agg #[.slice none 0 0, .int .i64 0], .bool false])) w' := ⟨none, 0, rfl, .inl rfl, h⟩
theorem below_drewN (w : World) (n : Nat) : Below w.heap.size w (w.drewN n) := ⟨rfl, rfl, rfl, Nat.le_refl _, fun _ _ => rfl⟩
theorem parseWords8_any (t : List UInt8) (w : World) (hl : t.length ≤ 1048576) (hL : LibLay w) :
    Calls Tryd.prog 69 #[.string (strOf t), .string (strOf [44]), .int .i64 8, .func (.func 68) #[] #[]] w (WordsPost (wordsL 44 8 t) w) :=
  parseWords_any t 44 8 w hl (by omega) hL
theorem cut_le (s : List UInt8) (c : UInt8) : (Lib.cut s [c]).1.length ≤ s.length ∧ (Lib.cut s [c]).2.1.length ≤ s.length := by
  unfold Lib.cut
  split
  · simp; omega
  · simp

theorem xs_le {c : UInt8} {most : Nat} {t : List UInt8} {xs : List Int} (h : wordsL c most t = some xs) : xs.length ≤ most := by
  unfold wordsL at h
  split at h
  · cases h; simp
  · split at h
    · rename_i hm
      unfold allNum at h
      split at h
      · cases h; simpa using hm
      · cases h
    · cases h

set_option maxHeartbeats 3200000 in
set_option maxRecDepth 100000 in
theorem implParseParty_any (s : List UInt8) (w : World) (hl : s.length ≤ 1048576) (hL : LibLay w) :
    Calls Tryd.prog 19 #[.string (strOf s)] w (ParPost (partyI s) w) := by
  obtain ⟨m, hmax⟩ := hL.max
  have hZ := Whole.fresh w 28 #[.slice none 0 0, .int .i64 0]
  have ht0 := below1 w (.cells #[.slice none 0 0, .int .i64 0] 28)
  have hmax2 : (w.alloc (.cells #[.slice none 0 0, .int .i64 0] 28)).cell? ⟨0, 0, none⟩ = some (.int .i64 m) := (ht0.cell (p := ⟨_, 0, none⟩) (Lib.lt_of_cell hmax)).trans hmax
  have HM := Lib.hid hmax2
  have hcl := cut_le s 58
  obtain ⟨a, t, fo, hcut⟩ : ∃ a t f, Lib.cut s [58] = (a, t, f) := ⟨_, _, _, rfl⟩
  rw [hcut] at hcl
  dsimp only at hcl
  have HCUT := Lib.hid hcut
  have HP : Hid (partyI s = match numL a, wordsL 44 8 t with | some v, some xs => if isParty xs v then some (xs, v) else none | _, _ => none) := by
    show _ = _
    unfold partyI
    rw [hcut] <;> rfl
  have hlz := hZ.lt
  clear hmax hmax2 hcut
  go_enter Tryd.func19, Tryd.ntmps19
  go_wp2_with fail
  refine (Tryd.strings_Cut (strOf s) (strOf [58]) m _ (by rw [strOf_size]; omega) HM.out).mono ?_
  rintro e w1 ⟨rfl, nn, rfl⟩
  rw [strOf_list, strOf_list, HCUT.out]
  dsimp only
  have hb := below_drewN (w.alloc (.cells #[.slice none 0 0, .int .i64 0] 28)) nn
  generalize World.drewN (w.alloc (.cells #[.slice none 0 0, .int .i64 0] 28)) nn = w1 at hb ⊢
  have ht := below_then ht0 hb (by simp)
  replace hZ := hZ.below hb
  clear hb ht0
  go_wp2_with fail
  refine (number_any a _ (by omega) (hL.below ht)).mono ?_
  rintro e w2 ⟨rfl, hb⟩
  replace ht := below_then ht hb ht.size
  replace hZ := hZ.below hb
  clear hb
  go_wp2_with fail
  refine (parseWords8_any t _ (by omega) (hL.below ht)).mono ?_
  rintro e w3 ⟨G, z, rfl, hown, hb⟩
  have hwl := ht.size
  have hwl2 := hZ.lt
  replace ht := below_then ht hb ht.size
  replace hZ := hZ.below hb
  clear hb
  have hown0 := own_lowQ hown hwl
  cases hn : numL a with
  | none =>
    have HR := Lib.hid (show partyI s = none by rw [HP.out, hn])
    obtain ⟨z0, z1⟩ := hZ.cells2
    have zf0 := hZ.open_ 0
    have zf1 := hZ.open_ 1
    have hzl := hZ.lt
    generalize (wordsL 44 8 t).getD [] = xs at hown hown0 ⊢
    generalize (wordsL 44 8 t).isSome = ok
    clear hown hown0 hn
    have hZ3 : Whole (((w3.setCell ⟨w.heap.size, 0, none⟩ (.slice none 0 0)).setCell ⟨w.heap.size, 1, none⟩ (.int .i64 0)).alloc (.cells #[.slice G xs.length z, .int .i64 0] 28)) w.heap.size 28 #[.slice none 0 0, .int .i64 0] := ((hZ.set_ 0 (.slice none 0 0)).set_ 1 (.int .i64 0)).alloc (.cells #[.slice G xs.length z, .int .i64 0] 28)
    have ht3 := (below_set (o := 1) (u := .int .i64 0) (below_set (o := 0) (u := .slice none 0 0) ht (Nat.le_refl _)) (Nat.le_refl _)).alloc (below_set (o := 1) (u := .int .i64 0) (below_set (o := 0) (u := .slice none 0 0) ht (Nat.le_refl _)) (Nat.le_refl _)).size (.cells #[.slice G xs.length z, .int .i64 0] 28)
    obtain ⟨r0, r1⟩ := hZ3.cells2
    go_wp2
    refine bodyPost_ret (v := .tuple #[.agg #[.slice none 0 0, .int .i64 0], .bool false]) (by simp [results, Tryd.results19, go_sem, r0, r1]) rfl ?_
    rw [HR.out]
    exact ParPost.no ht3
  | some v =>
    cases hx : wordsL 44 8 t with
    | none =>
      have HR := Lib.hid (show partyI s = none by rw [HP.out, hn, hx])
      obtain ⟨z0, z1⟩ := hZ.cells2
      have zf0 := hZ.open_ 0
      have zf1 := hZ.open_ 1
      have hzl := hZ.lt
      clear hown hown0 hn hx
      have hZ3 : Whole (((w3.setCell ⟨w.heap.size, 0, none⟩ (.slice none 0 0)).setCell ⟨w.heap.size, 1, none⟩ (.int .i64 0)).alloc (.cells #[.slice G 0 z, .int .i64 v] 28)) w.heap.size 28 #[.slice none 0 0, .int .i64 0] := ((hZ.set_ 0 (.slice none 0 0)).set_ 1 (.int .i64 0)).alloc (.cells #[.slice G 0 z, .int .i64 v] 28)
      have ht3 := (below_set (o := 1) (u := .int .i64 0) (below_set (o := 0) (u := .slice none 0 0) ht (Nat.le_refl _)) (Nat.le_refl _)).alloc (below_set (o := 1) (u := .int .i64 0) (below_set (o := 0) (u := .slice none 0 0) ht (Nat.le_refl _)) (Nat.le_refl _)).size (.cells #[.slice G 0 z, .int .i64 v] 28)
      obtain ⟨r0, r1⟩ := hZ3.cells2
      go_wp2
      refine bodyPost_ret (v := .tuple #[.agg #[.slice none 0 0, .int .i64 0], .bool false]) (by simp [results, Tryd.results19, go_sem, r0, r1]) rfl ?_
      rw [HR.out]
      exact ParPost.no ht3
    | some xs =>
      rw [hx] at hown hown0
      simp only [Option.getD_some] at hown hown0
      have hbx := Whole.fresh w3 28 #[.slice G xs.length z, .int .i64 v]
      obtain ⟨p0, p1⟩ := hbx.cells2
      have hown2 := hown.alloc (.cells #[.slice G xs.length z, .int .i64 v] 28)
      obtain ⟨hhold, -⟩ := own_holdsQ hown2
      have hZa := hZ.alloc (.cells #[.slice G xs.length z, .int .i64 v] 28)
      have hta := ht.alloc ht.size (.cells #[.slice G xs.length z, .int .i64 v] 28)
      have hz3 := hZ.lt
      go_wp2_with fail
      refine (isParty_any G xs.length z xs v _ hhold rfl (by have := xs_le hx; omega)).mono ?_
      rintro e w4 ⟨rfl, hb⟩
      replace hZa := hZa.below hb
      have hbx4 := hbx.below hb
      have hown4 := own_belowQ hown2 hb
      have ht4 := below_then hta hb hta.size
      obtain ⟨q0, q1⟩ := hbx4.cells2
      obtain ⟨z0, z1⟩ := hZa.cells2
      have zf0 := hZa.open_ 0
      have zf1 := hZa.open_ 1
      have hne : ¬ w3.heap.size = w.heap.size := by omega
      clear hb hown hown0 hown2 p0 p1 hhold hZ hbx hta
      cases hp : isParty xs v
      · have HR := Lib.hid (show partyI s = none by rw [HP.out, hn, hx]; simp [hp])
        have hZ3 : Whole ((w4.setCell ⟨w.heap.size, 0, none⟩ (.slice none 0 0)).setCell ⟨w.heap.size, 1, none⟩ (.int .i64 0)) w.heap.size 28 #[.slice none 0 0, .int .i64 0] := (hZa.set_ 0 (.slice none 0 0)).set_ 1 (.int .i64 0)
        have ht5 := below_set (o := 1) (u := .int .i64 0) (below_set (o := 0) (u := .slice none 0 0) ht4 (Nat.le_refl _)) (Nat.le_refl _)
        obtain ⟨r0, r1⟩ := hZ3.cells2
        clear hp hn hx hown4
        go_wp2
        refine bodyPost_ret (v := .tuple #[.agg #[.slice none 0 0, .int .i64 0], .bool false]) (by simp [results, Tryd.results19, go_sem, r0, r1]) rfl ?_
        rw [HR.out]
        exact ParPost.no ht5
      · have HR := Lib.hid (show partyI s = some (xs, v) by rw [HP.out, hn, hx]; simp [hp])
        have hZ3 : Whole ((w4.setCell ⟨w.heap.size, 0, none⟩ (.slice G xs.length z)).setCell ⟨w.heap.size, 1, none⟩ (.int .i64 v)) w.heap.size 28 #[.slice G xs.length z, .int .i64 v] := (hZa.set_ 0 (.slice G xs.length z)).set_ 1 (.int .i64 v)
        have ht5 := below_set (o := 1) (u := .int .i64 v) (below_set (o := 0) (u := .slice G xs.length z) ht4 (Nat.le_refl _)) (Nat.le_refl _)
        have hown5 := ownsRow_setCell_below (a := ⟨w.heap.size, 1, none⟩) (ownsRow_setCell_below (a := ⟨w.heap.size, 0, none⟩) hown4 hwl2 (.slice G xs.length z)) hwl2 (.int .i64 v)
        obtain ⟨r0, r1⟩ := hZ3.cells2
        have HO := Lib.hid (own_lowQ hown5 hwl)
        clear hp hn hx hown4 hown5
        go_wp2
        refine bodyPost_ret (v := .tuple #[.agg #[.slice G xs.length z, .int .i64 v], .bool true]) (by simp [results, Tryd.results19, go_sem, r0, r1]) rfl ?_
        rw [HR.out]
        obtain ⟨A', c', hv, hF⟩ := Fresh.of_own HO.out (Nat.le_refl _)
        obtain ⟨rfl, rfl⟩ : G = A' ∧ z = c' := by simpa using hv
        exact ⟨G, z, rfl, hF, ht5⟩
end Go.Proofs.YtedkanncdkofaaaDoor

namespace Go.Proofs.YtedkanncdkofaaaDoor
open Go.RowKit

/-- A row of texts of the call's own, as a block. -/
theorem own_blockQ {w : World} {base : Nat} {e : TypeId} {T : Option Addr} {n c : Nat} {xs : List Value} (h : w.ownsRow base e 1 (.slice T n c) n xs) (hn : 0 < n) : ∃ (g : Nat) (cs : Array Value), T = some ⟨g, 0, none⟩ ∧ base ≤ g ∧ Whole w g e cs ∧ ∀ j (hj : j < xs.length), cs[j]? = some xs[j] := by
  obtain ⟨hl, ⟨hv, h0⟩ | ⟨g, cap, cur, hv, hg, hh, h1, h2, h3, h4⟩⟩ := h
  · omega
  · obtain ⟨rfl, rfl⟩ : T = some ⟨g, 0, none⟩ ∧ c = cap := by simpa using hv
    refine ⟨g, cur, rfl, hg, hh, fun j hj => ?_⟩
    rw [← Array.getElem?_toList, ← List.getElem?_eq_getElem hj, ← h4, List.getElem?_take_of_lt (by omega)]

set_option linter.unusedSimpArgs false in
set_option maxHeartbeats 6400000 in
set_option maxRecDepth 100000 in
theorem paParse_any (s : List UInt8) (w : World) (hl : s.length ≤ 1048576) :
    Calls Tryd.prog 66 #[.string (strOf s)] w (ParPost (partyM s) w) := by
  have hZ := Whole.fresh w 28 #[.slice none 0 0, .int .i64 0]
  have ht0 := below1 w (.cells #[.slice none 0 0, .int .i64 0] 28)
  have hpl := pieces_len_le 58 s
  have hlz := hZ.lt
  go_enter Tryd.func66, Tryd.ntmps66
  go_wp2_with fail
  refine (l1Split_any s 58 _ hl).mono ?_
  rintro e w1 ⟨G, z, rfl, hown, hb⟩
  have ht := below_then ht0 hb (by simp)
  replace hZ := hZ.below hb
  clear hb ht0
  by_cases hc : s.length ≤ 60 ∧ (pieces 58 s).length = 2
  · obtain ⟨h60, hp2⟩ := hc
    obtain ⟨a, t, hat⟩ : ∃ a t, pieces 58 s = [a, t] := by
      match hq : pieces 58 s, hp2 with
      | [a, t], _ => exact ⟨a, t, rfl⟩
    have HM : Hid (partyM s = if isParty ((pieces 44 t).map readL) (readL a) then some ((pieces 44 t).map readL, readL a) else none) := by
      show _ = _
      unfold partyM
      rw [if_pos ⟨h60, hp2⟩, hat]
      rfl
    have hal : a.length ≤ 1048576 := Nat.le_trans (piece_le (c := 58) (l := s) (by rw [hat]; simp)) hl
    have htl : t.length ≤ 60 := Nat.le_trans (piece_le (c := 58) (l := s) (by rw [hat]; simp)) h60
    rw [hat] at hown ⊢
    obtain ⟨g1, cs1, rfl, hg1, hw1, hcs1⟩ := own_blockQ hown (by simp)
    have e0 := (hw1.cell 0).trans (hcs1 0 (by simp [strs]))
    have e1 := (hw1.cell 1).trans (hcs1 1 (by simp [strs]))
    simp only [strs, List.map_cons, List.getElem_cons_zero, List.getElem_cons_succ] at e0 e1
    have hs60 : ¬ ((s.length : Int) > 60) := by omega
    have hg1l := hw1.lt
    clear hown hcs1 hp2 hat
    go_wp2_with fail
    refine (l1Read_any a _ hal).mono ?_
    rintro e w1' ⟨rfl, rfl⟩
    have hB := Whole.fresh w1 28 #[.slice none 0 0, .int .i64 (readL a)]
    replace ht := ht.alloc ht.size (.cells #[.slice none 0 0, .int .i64 (readL a)] 28)
    replace hZ := hZ.alloc (.cells #[.slice none 0 0, .int .i64 (readL a)] 28)
    have hne : ¬ g1 = w1.heap.size := by omega
    go_wp2_with fail
    refine (l1Split_any t 44 _ (by omega)).mono ?_
    rintro e w3 ⟨G2, z2, rfl, hown, hb⟩
    have hpl2 := pieces_len_le 44 t
    have hpos := List.length_pos_iff.2 (pieces_ne 44 t)
    have hfree : ∀ p ∈ pieces 44 t, p.length ≤ 1048576 := fun p hp => Nat.le_trans (piece_le hp) (by omega)
    generalize pieces 44 t = ps at hown hpl2 hpos hfree HM ⊢
    obtain ⟨g2, cs2, rfl, hg2, hw2, hcs2⟩ := own_blockQ hown hpos
    replace ht := below_then ht hb ht.size
    replace hZ := hZ.below hb
    replace hB := hB.below hb
    have HF := Lib.hid hfree
    have HCS := Lib.hid hcs2
    have hrz : w.heap.size < w1.heap.size := by have := hg1; simp at this; omega
    have hpz : w1.heap.size < w3.heap.size := hB.lt
    have hg2b : w1.heap.size < g2 := by have := hg2; simp at this; omega
    have hg2l := hw2.lt
    have hps61 : ps.length ≤ 61 := by omega
    obtain ⟨i0, hi, hz0, hz1, hz2⟩ := info_parts info_int
    have HI := Lib.hid hi
    have HZ0 := Lib.hid hz0
    have HZ1 := Lib.hid hz1
    have HZ2 := Lib.hid hz2
    generalize hPB : w1.heap.size = pb at hB hrz hpz hg2b hne ⊢
    clear hown hb hcs2 hfree hi hz0 hz1 hz2 e0 e1 hw1 hg1l hg1 hne hg2 hPB
    go_wp2
    go_loopw [29] (fun i wr => ∃ (k : Nat) (T : Option Addr) (q : Nat), k ≤ ps.length ∧ i = .int .i64 k ∧ Whole wr pb 28 #[.slice T k q, .int .i64 (readL a)] ∧ wr.ownsRow w3.heap.size 3 1 (.slice T k q) k (nums ((ps.take k).map readL)) ∧ Whole wr g2 9 cs2 ∧ Whole wr w.heap.size 28 #[.slice none 0 0, .int .i64 0] ∧ Below w.heap.size w wr ∧ w3.heap.size ≤ wr.heap.size) (fun i _ => ps.length - (intOf i).toNat)
    case atStart => exact ⟨0, none, 0, Nat.zero_le _, rfl, hB, World.ownsRow_nil _ _ _ _, hw2, hZ, ht, Nat.le_refl _⟩
    case round =>
      obtain ⟨k, T, q, hk, rfl, hB, hown, hw2, hZ, hb, hsz⟩ := hrel
      by_cases hlt : k < ps.length
      · have hcw := (hw2.cell k).trans (HCS.out k (by rw [strs_len]; exact hlt))
        simp only [strs, List.getElem_map] at hcw
        have hxl := HF.out ps[k] (List.getElem_mem hlt)
        have HT := Lib.hid (List.take_succ_eq_append_getElem hlt)
        generalize ps[k] = x at hcw hxl HT
        have HMAX := Lib.hid (show k + 1 ≤ maxLen by unfold maxLen; omega)
        have HBYT := Lib.hid (show (k + 1) * 8 ≤ 140737488355328 by omega)
        obtain ⟨b0, b1⟩ := hB.cells2
        go_wp2_with fail
        refine wp_region_held_drew (S := (fun _ => True)) (by kernel_rfl) trivial (fun hHeld => ?_)
        replace hB := hB.drew
        replace hw2 := hw2.drew
        replace hZ := hZ.drew
        replace hb := hb.drew
        replace hown := own_belowQ hown (Below.refl _ _).drew
        replace hsz : w3.heap.size ≤ (World.drew wr).heap.size := hsz
        generalize World.drew wr = wd at hB hw2 hZ hb hown hsz hHeld ⊢
        clear b0 b1 hcw
        refine wpAnyH_take (i := 0) (v := ?_) rfl (by kernel_rfl) (by kernel_rfl) (by kernel_rfl) (fun _ _ _ h => h) (Or.inl ⟨rfl, ?_⟩) hHeld ?_
        rotate_left
        · intro w' hS; skip; go_simp <;> with_reducible rfl
        simp only [Act.put, List.getElem_toArray, List.getElem_cons_succ, List.getElem_cons_zero, List.setIfInBounds_toArray, List.set_cons_succ, List.set_cons_zero]
        refine wpAnyH_take (i := 2) (v := ?_) rfl (by kernel_rfl) (by kernel_rfl) (by kernel_rfl) (fun _ _ _ h => h) (Or.inl ⟨rfl, ?_⟩) hHeld ?_
        rotate_left
        · intro w' hS; skip; go_simp <;> with_reducible rfl
        simp only [Act.put, List.getElem_toArray, List.getElem_cons_succ, List.getElem_cons_zero, List.setIfInBounds_toArray, List.set_cons_succ, List.set_cons_zero]
        refine wpAnyH_ready (rs := [1, 3]) (by kernel_rfl) (by simp) (AllReadyH.cons rfl (fun K hK => ?_) (AllReadyH.cons rfl (fun K hK => ?_) AllReadyH.nil))
        · obtain ⟨y0_, y1_⟩ := hB.cells2
          go_simp
          clear y0_ y1_
          refine hK.out _ _ trivial (fun hHeld => ?_)
          clear hK K
          try simp only [Act.put, List.getElem_toArray, List.getElem_cons_succ, List.getElem_cons_zero, List.setIfInBounds_toArray, List.set_cons_succ, List.set_cons_zero]
          refine wpAnyH_ready (rs := [3]) (by kernel_rfl) (by simp) (AllReadyH.cons rfl (fun K hK => ?_) AllReadyH.nil)
          go_simp
          refine (l1Read_any x _ hxl).mono ?_
          rintro e w' ⟨rfl, rfl⟩
          refine hK.out _ _ trivial (fun hHeld => ?_)
          clear hK K
          try simp only [Act.put, List.getElem_toArray, List.getElem_cons_succ, List.getElem_cons_zero, List.setIfInBounds_toArray, List.set_cons_succ, List.set_cons_zero]
          refine wpAnyH_ready (rs := [4]) (by kernel_rfl) (by simp) (AllReadyH.cons rfl (fun K hK => ?_) AllReadyH.nil)
          go_simp
          have hN := Whole.fresh wd 3 #[.int .i64 (readL x)]
          obtain ⟨gN, hgN⟩ : ∃ g, g = wd.heap.size := ⟨_, rfl⟩
          rw [← hgN] at hN ⊢
          clear hgN
          replace hown := hown.alloc (.cells #[.int .i64 (readL x)] 3)
          replace hB := hB.alloc (.cells #[.int .i64 (readL x)] 3)
          replace hw2 := hw2.alloc (.cells #[.int .i64 (readL x)] 3)
          replace hZ := hZ.alloc (.cells #[.int .i64 (readL x)] 3)
          replace hb := hb.alloc hb.size (.cells #[.int .i64 (readL x)] 3)
          replace hsz : w3.heap.size ≤ (World.alloc wd (.cells #[.int .i64 (readL x)] 3)).heap.size := by simp; omega
          generalize World.alloc wd (.cells #[.int .i64 (readL x)] 3) = wd4 at hN hown hB hw2 hZ hb hsz ⊢
          refine hK.out _ _ trivial (fun hHeld => ?_)
          clear hK K
          try simp only [Act.put, List.getElem_toArray, List.getElem_cons_succ, List.getElem_cons_zero, List.setIfInBounds_toArray, List.set_cons_succ, List.set_cons_zero]
          refine wpAnyH_ready (rs := [5]) (by kernel_rfl) (by simp) (AllReadyH.cons rfl (fun K hK => ?_) AllReadyH.nil)
          have HNW : Hid (∀ j u, ([.int .i64 (readL x)] : List Value)[j]? = some u → wd4.cell? ((⟨gN, 0, none⟩ : Addr).add j) = some u) := fun j u hu => by rw [Addr.add_lit, Nat.zero_add]; exact (hN.cell j).trans (by simpa using hu)
          refine step_append_mineQ rfl (.tmp 34) (.tmp 37) 22 rfl w3.heap.size 3 i0 (.int .i64 0) 1 8 Tryd.underlying22 HI.out HZ0.out HZ1.out HZ2.out rfl (by decide) (.slice T k q) k (nums ((ps.take k).map readL)) (by simp [Act.eval]) (by exact hown) ⟨gN, 0, none⟩ 1 1 [.int .i64 (readL x)] (by simp [Act.eval]) rfl HNW.out (by simp [Value.oneCell']) HMAX.out HBYT.out hsz ?_
          intro v7 wd5 hown7 hgr7
          obtain ⟨D, y, rfl⟩ := own_shapeQ hown7
          have hrow : ∀ y, (.slice T k q : Value).ownBlock = some y → w3.heap.size ≤ y := fun y hy => (hown.lt y hy).1
          replace hb := hb.grown hgr7 hb.size (fun y hy => by have := hrow y hy; omega)
          replace hB := whole_apartQ hB hgr7 (fun e => absurd (hrow _ e.symm) (by omega))
          replace hw2 := whole_apartQ hw2 hgr7 (fun e => absurd (hrow _ e.symm) (by omega))
          replace hZ := whole_apartQ hZ hgr7 (fun e => absurd (hrow _ e.symm) (by omega))
          replace hsz : w3.heap.size ≤ wd5.heap.size := Nat.le_trans hsz hgr7.size
          rw [show nums ((ps.take k).map readL) ++ [.int .i64 (readL x)] = nums ((ps.take (k + 1)).map readL) by rw [HT.out]; simp [nums]] at hown7
          clear hown hrow hgr7 hN HNW
          refine hK.out _ _ trivial (fun hHeld => ?_)
          clear hK K
          try simp only [Act.put, List.getElem_toArray, List.getElem_cons_succ, List.getElem_cons_zero, List.setIfInBounds_toArray, List.set_cons_succ, List.set_cons_zero]
          refine wpAnyH_take (i := 6) (v := ?_) rfl (by kernel_rfl) (by kernel_rfl) (by kernel_rfl) (fun _ _ _ h => h) (Or.inl ⟨rfl, ?_⟩) hHeld ?_
          rotate_left
          · intro w' hS; skip; go_simp <;> with_reducible rfl
          simp only [Act.put, List.getElem_toArray, List.getElem_cons_succ, List.getElem_cons_zero, List.setIfInBounds_toArray, List.set_cons_succ, List.set_cons_zero]
          refine wpAnyH_ready (rs := [7]) (by kernel_rfl) (by simp) (AllReadyH.cons rfl (fun K hK => ?_) AllReadyH.nil)
          obtain ⟨e0, e1⟩ := hB.cells2
          have hel := hB.lt
          have hop := hB.open_ 0
          go_simp
          clear e0 e1 hel hop
          have hB9 : Whole (World.setCell wd5 ⟨pb, 0, none⟩ (.slice D (k + 1) y)) pb 28 #[(.slice D (k + 1) y), .int .i64 (readL a)] := hB.set_ 0 _
          have hw29 := hw2.off (b := pb) (o := 0) (u := (.slice D (k + 1) y)) (by omega)
          have hZ9 := hZ.off (b := pb) (o := 0) (u := (.slice D (k + 1) y)) (by omega)
          have hown9 := ownsRow_setCell_below (a := ⟨pb, 0, none⟩) hown7 (by show pb < w3.heap.size; omega) (.slice D (k + 1) y)
          have hb9 := below_set (b := pb) (o := 0) (u := (.slice D (k + 1) y)) hb (by omega)
          replace hsz : w3.heap.size ≤ (World.setCell wd5 ⟨pb, 0, none⟩ (.slice D (k + 1) y)).heap.size := by simpa [World.setCell] using hsz
          generalize World.setCell wd5 ⟨pb, 0, none⟩ (.slice D (k + 1) y) = wd9 at hB9 hw29 hZ9 hown9 hb9 hsz ⊢
          clear hB hw2 hZ hown7 hb
          refine hK.out _ _ trivial (fun hHeld => ?_)
          clear hK K
          try simp only [Act.put, List.getElem_toArray, List.getElem_cons_succ, List.getElem_cons_zero, List.setIfInBounds_toArray, List.set_cons_succ, List.set_cons_zero]
          refine wpAnyH_done (by kernel_rfl) ?_ _
          clear hHeld
          go_wp2_with fail
          go_roundw
          case rel => exact ⟨k + 1, D, y, by omega, by go_num, hB9, hown9, hw29, hZ9, hb9, hsz⟩
          case measure => simp [intOf]; omega
        · go_simp
          refine (l1Read_any x _ hxl).mono ?_
          rintro e w' ⟨rfl, rfl⟩
          refine hK.out _ _ trivial (fun hHeld => ?_)
          clear hK K
          try simp only [Act.put, List.getElem_toArray, List.getElem_cons_succ, List.getElem_cons_zero, List.setIfInBounds_toArray, List.set_cons_succ, List.set_cons_zero]
          refine wpAnyH_ready (rs := [1, 4]) (by kernel_rfl) (by simp) (AllReadyH.cons rfl (fun K hK => ?_) (AllReadyH.cons rfl (fun K hK => ?_) AllReadyH.nil))
          · obtain ⟨y0_, y1_⟩ := hB.cells2
            go_simp
            clear y0_ y1_
            refine hK.out _ _ trivial (fun hHeld => ?_)
            clear hK K
            try simp only [Act.put, List.getElem_toArray, List.getElem_cons_succ, List.getElem_cons_zero, List.setIfInBounds_toArray, List.set_cons_succ, List.set_cons_zero]
            refine wpAnyH_ready (rs := [4]) (by kernel_rfl) (by simp) (AllReadyH.cons rfl (fun K hK => ?_) AllReadyH.nil)
            go_simp
            have hN := Whole.fresh wd 3 #[.int .i64 (readL x)]
            obtain ⟨gN, hgN⟩ : ∃ g, g = wd.heap.size := ⟨_, rfl⟩
            rw [← hgN] at hN ⊢
            clear hgN
            replace hown := hown.alloc (.cells #[.int .i64 (readL x)] 3)
            replace hB := hB.alloc (.cells #[.int .i64 (readL x)] 3)
            replace hw2 := hw2.alloc (.cells #[.int .i64 (readL x)] 3)
            replace hZ := hZ.alloc (.cells #[.int .i64 (readL x)] 3)
            replace hb := hb.alloc hb.size (.cells #[.int .i64 (readL x)] 3)
            replace hsz : w3.heap.size ≤ (World.alloc wd (.cells #[.int .i64 (readL x)] 3)).heap.size := by simp; omega
            generalize World.alloc wd (.cells #[.int .i64 (readL x)] 3) = wd4 at hN hown hB hw2 hZ hb hsz ⊢
            refine hK.out _ _ trivial (fun hHeld => ?_)
            clear hK K
            try simp only [Act.put, List.getElem_toArray, List.getElem_cons_succ, List.getElem_cons_zero, List.setIfInBounds_toArray, List.set_cons_succ, List.set_cons_zero]
            refine wpAnyH_ready (rs := [5]) (by kernel_rfl) (by simp) (AllReadyH.cons rfl (fun K hK => ?_) AllReadyH.nil)
            have HNW : Hid (∀ j u, ([.int .i64 (readL x)] : List Value)[j]? = some u → wd4.cell? ((⟨gN, 0, none⟩ : Addr).add j) = some u) := fun j u hu => by rw [Addr.add_lit, Nat.zero_add]; exact (hN.cell j).trans (by simpa using hu)
            refine step_append_mineQ rfl (.tmp 34) (.tmp 37) 22 rfl w3.heap.size 3 i0 (.int .i64 0) 1 8 Tryd.underlying22 HI.out HZ0.out HZ1.out HZ2.out rfl (by decide) (.slice T k q) k (nums ((ps.take k).map readL)) (by simp [Act.eval]) (by exact hown) ⟨gN, 0, none⟩ 1 1 [.int .i64 (readL x)] (by simp [Act.eval]) rfl HNW.out (by simp [Value.oneCell']) HMAX.out HBYT.out hsz ?_
            intro v7 wd5 hown7 hgr7
            obtain ⟨D, y, rfl⟩ := own_shapeQ hown7
            have hrow : ∀ y, (.slice T k q : Value).ownBlock = some y → w3.heap.size ≤ y := fun y hy => (hown.lt y hy).1
            replace hb := hb.grown hgr7 hb.size (fun y hy => by have := hrow y hy; omega)
            replace hB := whole_apartQ hB hgr7 (fun e => absurd (hrow _ e.symm) (by omega))
            replace hw2 := whole_apartQ hw2 hgr7 (fun e => absurd (hrow _ e.symm) (by omega))
            replace hZ := whole_apartQ hZ hgr7 (fun e => absurd (hrow _ e.symm) (by omega))
            replace hsz : w3.heap.size ≤ wd5.heap.size := Nat.le_trans hsz hgr7.size
            rw [show nums ((ps.take k).map readL) ++ [.int .i64 (readL x)] = nums ((ps.take (k + 1)).map readL) by rw [HT.out]; simp [nums]] at hown7
            clear hown hrow hgr7 hN HNW
            refine hK.out _ _ trivial (fun hHeld => ?_)
            clear hK K
            try simp only [Act.put, List.getElem_toArray, List.getElem_cons_succ, List.getElem_cons_zero, List.setIfInBounds_toArray, List.set_cons_succ, List.set_cons_zero]
            refine wpAnyH_take (i := 6) (v := ?_) rfl (by kernel_rfl) (by kernel_rfl) (by kernel_rfl) (fun _ _ _ h => h) (Or.inl ⟨rfl, ?_⟩) hHeld ?_
            rotate_left
            · intro w' hS; skip; go_simp <;> with_reducible rfl
            simp only [Act.put, List.getElem_toArray, List.getElem_cons_succ, List.getElem_cons_zero, List.setIfInBounds_toArray, List.set_cons_succ, List.set_cons_zero]
            refine wpAnyH_ready (rs := [7]) (by kernel_rfl) (by simp) (AllReadyH.cons rfl (fun K hK => ?_) AllReadyH.nil)
            obtain ⟨e0, e1⟩ := hB.cells2
            have hel := hB.lt
            have hop := hB.open_ 0
            go_simp
            clear e0 e1 hel hop
            have hB9 : Whole (World.setCell wd5 ⟨pb, 0, none⟩ (.slice D (k + 1) y)) pb 28 #[(.slice D (k + 1) y), .int .i64 (readL a)] := hB.set_ 0 _
            have hw29 := hw2.off (b := pb) (o := 0) (u := (.slice D (k + 1) y)) (by omega)
            have hZ9 := hZ.off (b := pb) (o := 0) (u := (.slice D (k + 1) y)) (by omega)
            have hown9 := ownsRow_setCell_below (a := ⟨pb, 0, none⟩) hown7 (by show pb < w3.heap.size; omega) (.slice D (k + 1) y)
            have hb9 := below_set (b := pb) (o := 0) (u := (.slice D (k + 1) y)) hb (by omega)
            replace hsz : w3.heap.size ≤ (World.setCell wd5 ⟨pb, 0, none⟩ (.slice D (k + 1) y)).heap.size := by simpa [World.setCell] using hsz
            generalize World.setCell wd5 ⟨pb, 0, none⟩ (.slice D (k + 1) y) = wd9 at hB9 hw29 hZ9 hown9 hb9 hsz ⊢
            clear hB hw2 hZ hown7 hb
            refine hK.out _ _ trivial (fun hHeld => ?_)
            clear hK K
            try simp only [Act.put, List.getElem_toArray, List.getElem_cons_succ, List.getElem_cons_zero, List.setIfInBounds_toArray, List.set_cons_succ, List.set_cons_zero]
            refine wpAnyH_done (by kernel_rfl) ?_ _
            clear hHeld
            go_wp2_with fail
            go_roundw
            case rel => exact ⟨k + 1, D, y, by omega, by go_num, hB9, hown9, hw29, hZ9, hb9, hsz⟩
            case measure => simp [intOf]; omega
          · go_simp
            have hN := Whole.fresh wd 3 #[.int .i64 (readL x)]
            obtain ⟨gN, hgN⟩ : ∃ g, g = wd.heap.size := ⟨_, rfl⟩
            rw [← hgN] at hN ⊢
            clear hgN
            replace hown := hown.alloc (.cells #[.int .i64 (readL x)] 3)
            replace hB := hB.alloc (.cells #[.int .i64 (readL x)] 3)
            replace hw2 := hw2.alloc (.cells #[.int .i64 (readL x)] 3)
            replace hZ := hZ.alloc (.cells #[.int .i64 (readL x)] 3)
            replace hb := hb.alloc hb.size (.cells #[.int .i64 (readL x)] 3)
            replace hsz : w3.heap.size ≤ (World.alloc wd (.cells #[.int .i64 (readL x)] 3)).heap.size := by simp; omega
            generalize World.alloc wd (.cells #[.int .i64 (readL x)] 3) = wd4 at hN hown hB hw2 hZ hb hsz ⊢
            refine hK.out _ _ trivial (fun hHeld => ?_)
            clear hK K
            try simp only [Act.put, List.getElem_toArray, List.getElem_cons_succ, List.getElem_cons_zero, List.setIfInBounds_toArray, List.set_cons_succ, List.set_cons_zero]
            refine wpAnyH_ready (rs := [1]) (by kernel_rfl) (by simp) (AllReadyH.cons rfl (fun K hK => ?_) AllReadyH.nil)
            obtain ⟨y0_, y1_⟩ := hB.cells2
            go_simp
            clear y0_ y1_
            refine hK.out _ _ trivial (fun hHeld => ?_)
            clear hK K
            try simp only [Act.put, List.getElem_toArray, List.getElem_cons_succ, List.getElem_cons_zero, List.setIfInBounds_toArray, List.set_cons_succ, List.set_cons_zero]
            refine wpAnyH_ready (rs := [5]) (by kernel_rfl) (by simp) (AllReadyH.cons rfl (fun K hK => ?_) AllReadyH.nil)
            have HNW : Hid (∀ j u, ([.int .i64 (readL x)] : List Value)[j]? = some u → wd4.cell? ((⟨gN, 0, none⟩ : Addr).add j) = some u) := fun j u hu => by rw [Addr.add_lit, Nat.zero_add]; exact (hN.cell j).trans (by simpa using hu)
            refine step_append_mineQ rfl (.tmp 34) (.tmp 37) 22 rfl w3.heap.size 3 i0 (.int .i64 0) 1 8 Tryd.underlying22 HI.out HZ0.out HZ1.out HZ2.out rfl (by decide) (.slice T k q) k (nums ((ps.take k).map readL)) (by simp [Act.eval]) (by exact hown) ⟨gN, 0, none⟩ 1 1 [.int .i64 (readL x)] (by simp [Act.eval]) rfl HNW.out (by simp [Value.oneCell']) HMAX.out HBYT.out hsz ?_
            intro v7 wd5 hown7 hgr7
            obtain ⟨D, y, rfl⟩ := own_shapeQ hown7
            have hrow : ∀ y, (.slice T k q : Value).ownBlock = some y → w3.heap.size ≤ y := fun y hy => (hown.lt y hy).1
            replace hb := hb.grown hgr7 hb.size (fun y hy => by have := hrow y hy; omega)
            replace hB := whole_apartQ hB hgr7 (fun e => absurd (hrow _ e.symm) (by omega))
            replace hw2 := whole_apartQ hw2 hgr7 (fun e => absurd (hrow _ e.symm) (by omega))
            replace hZ := whole_apartQ hZ hgr7 (fun e => absurd (hrow _ e.symm) (by omega))
            replace hsz : w3.heap.size ≤ wd5.heap.size := Nat.le_trans hsz hgr7.size
            rw [show nums ((ps.take k).map readL) ++ [.int .i64 (readL x)] = nums ((ps.take (k + 1)).map readL) by rw [HT.out]; simp [nums]] at hown7
            clear hown hrow hgr7 hN HNW
            refine hK.out _ _ trivial (fun hHeld => ?_)
            clear hK K
            try simp only [Act.put, List.getElem_toArray, List.getElem_cons_succ, List.getElem_cons_zero, List.setIfInBounds_toArray, List.set_cons_succ, List.set_cons_zero]
            refine wpAnyH_take (i := 6) (v := ?_) rfl (by kernel_rfl) (by kernel_rfl) (by kernel_rfl) (fun _ _ _ h => h) (Or.inl ⟨rfl, ?_⟩) hHeld ?_
            rotate_left
            · intro w' hS; skip; go_simp <;> with_reducible rfl
            simp only [Act.put, List.getElem_toArray, List.getElem_cons_succ, List.getElem_cons_zero, List.setIfInBounds_toArray, List.set_cons_succ, List.set_cons_zero]
            refine wpAnyH_ready (rs := [7]) (by kernel_rfl) (by simp) (AllReadyH.cons rfl (fun K hK => ?_) AllReadyH.nil)
            obtain ⟨e0, e1⟩ := hB.cells2
            have hel := hB.lt
            have hop := hB.open_ 0
            go_simp
            clear e0 e1 hel hop
            have hB9 : Whole (World.setCell wd5 ⟨pb, 0, none⟩ (.slice D (k + 1) y)) pb 28 #[(.slice D (k + 1) y), .int .i64 (readL a)] := hB.set_ 0 _
            have hw29 := hw2.off (b := pb) (o := 0) (u := (.slice D (k + 1) y)) (by omega)
            have hZ9 := hZ.off (b := pb) (o := 0) (u := (.slice D (k + 1) y)) (by omega)
            have hown9 := ownsRow_setCell_below (a := ⟨pb, 0, none⟩) hown7 (by show pb < w3.heap.size; omega) (.slice D (k + 1) y)
            have hb9 := below_set (b := pb) (o := 0) (u := (.slice D (k + 1) y)) hb (by omega)
            replace hsz : w3.heap.size ≤ (World.setCell wd5 ⟨pb, 0, none⟩ (.slice D (k + 1) y)).heap.size := by simpa [World.setCell] using hsz
            generalize World.setCell wd5 ⟨pb, 0, none⟩ (.slice D (k + 1) y) = wd9 at hB9 hw29 hZ9 hown9 hb9 hsz ⊢
            clear hB hw2 hZ hown7 hb
            refine hK.out _ _ trivial (fun hHeld => ?_)
            clear hK K
            try simp only [Act.put, List.getElem_toArray, List.getElem_cons_succ, List.getElem_cons_zero, List.setIfInBounds_toArray, List.set_cons_succ, List.set_cons_zero]
            refine wpAnyH_done (by kernel_rfl) ?_ _
            clear hHeld
            go_wp2_with fail
            go_roundw
            case rel => exact ⟨k + 1, D, y, by omega, by go_num, hB9, hown9, hw29, hZ9, hb9, hsz⟩
            case measure => simp [intOf]; omega
      · obtain rfl : k = ps.length := by omega
        rw [List.take_of_length_le (Nat.le_refl _)] at hown
        obtain ⟨b0, b1⟩ := hB.cells2
        obtain ⟨hhold, -⟩ := own_holdsQ hown
        go_wp2_with fail
        refine (paGood_any T ps.length q (ps.map readL) (readL a) _ hhold (by simp) (by omega)).mono ?_
        rintro e w4 ⟨rfl, hb4⟩
        replace hB := hB.below hb4
        replace hown := own_belowQ hown hb4
        replace hZ := hZ.below hb4
        have ht4 := below_then hb hb4 hb.size
        clear b0 b1 hhold hb hw2 hb4
        obtain ⟨b0, b1⟩ := hB.cells2
        obtain ⟨z0, z1⟩ := hZ.cells2
        have zf0 := hZ.open_ 0
        have zf1 := hZ.open_ 1
        have hne : ¬ pb = w.heap.size := by omega
        cases hp : isParty (ps.map readL) (readL a)
        · have HR := Lib.hid (show partyM s = none by rw [HM.out, hp]; rfl)
          have hZ3 : Whole ((w4.setCell ⟨w.heap.size, 0, none⟩ (.slice none 0 0)).setCell ⟨w.heap.size, 1, none⟩ (.int .i64 0)) w.heap.size 28 #[.slice none 0 0, .int .i64 0] := (hZ.set_ 0 (.slice none 0 0)).set_ 1 (.int .i64 0)
          have ht5 := below_set (o := 1) (u := .int .i64 0) (below_set (o := 0) (u := .slice none 0 0) ht4 (Nat.le_refl _)) (Nat.le_refl _)
          obtain ⟨r0, r1⟩ := hZ3.cells2
          clear hp hown
          go_wp2
          refine bodyPost_ret (v := .tuple #[.agg #[.slice none 0 0, .int .i64 0], .bool false]) (by simp [results, Tryd.results66, go_sem, r0, r1]) rfl ?_
          rw [HR.out]
          exact ParPost.no ht5
        · have HR := Lib.hid (show partyM s = some (ps.map readL, readL a) by rw [HM.out, hp]; rfl)
          have hZ3 : Whole ((w4.setCell ⟨w.heap.size, 0, none⟩ (.slice T ps.length q)).setCell ⟨w.heap.size, 1, none⟩ (.int .i64 (readL a))) w.heap.size 28 #[.slice T ps.length q, .int .i64 (readL a)] := (hZ.set_ 0 (.slice T ps.length q)).set_ 1 (.int .i64 (readL a))
          have ht5 := below_set (o := 1) (u := .int .i64 (readL a)) (below_set (o := 0) (u := .slice T ps.length q) ht4 (Nat.le_refl _)) (Nat.le_refl _)
          have hown5 := ownsRow_setCell_below (a := ⟨w.heap.size, 1, none⟩) (ownsRow_setCell_below (a := ⟨w.heap.size, 0, none⟩) hown (by show w.heap.size < w3.heap.size; omega) (.slice T ps.length q)) (by show w.heap.size < w3.heap.size; omega) (.int .i64 (readL a))
          obtain ⟨r0, r1⟩ := hZ3.cells2
          have HO := Lib.hid (own_lowQ hown5 (show w.heap.size ≤ w3.heap.size by omega))
          clear hp hown hown5
          go_wp2
          refine bodyPost_ret (v := .tuple #[.agg #[.slice T ps.length q, .int .i64 (readL a)], .bool true]) (by simp [results, Tryd.results66, go_sem, r0, r1]) rfl ?_
          rw [HR.out]
          obtain ⟨A', c', hv, hF⟩ := Fresh.of_own HO.out (Nat.le_refl _)
          obtain ⟨rfl, rfl⟩ : T = A' ∧ q = c' := by simpa using hv
          exact ⟨T, q, by simp, hF, ht5⟩
  · have HR := Lib.hid (show partyM s = none by unfold partyM; rw [if_neg hc])
    obtain ⟨z0, z1⟩ := hZ.cells2
    have zf0 := hZ.open_ 0
    have zf1 := hZ.open_ 1
    have hZ3 : Whole ((w1.setCell ⟨w.heap.size, 0, none⟩ (.slice none 0 0)).setCell ⟨w.heap.size, 1, none⟩ (.int .i64 0)) w.heap.size 28 #[.slice none 0 0, .int .i64 0] := (hZ.set_ 0 (.slice none 0 0)).set_ 1 (.int .i64 0)
    have ht5 := below_set (o := 1) (u := .int .i64 0) (below_set (o := 0) (u := .slice none 0 0) ht (Nat.le_refl _)) (Nat.le_refl _)
    obtain ⟨r0, r1⟩ := hZ3.cells2
    generalize (pieces 58 s).length = n at hc hown hpl ⊢
    rcases Nat.lt_or_ge 60 s.length with h60 | h60
    · have hs60 : (s.length : Int) > 60 := by omega
      clear hown hc
      go_wp2
      refine bodyPost_ret (v := .tuple #[.agg #[.slice none 0 0, .int .i64 0], .bool false]) (by simp [results, Tryd.results66, go_sem, r0, r1]) rfl ?_
      rw [HR.out]
      exact ParPost.no ht5
    · have hs60 : ¬ ((s.length : Int) > 60) := by omega
      have hn2 : ((n : Int) != 2) = true := by
        rw [bne_iff_ne]
        exact fun h => hc ⟨h60, by omega⟩
      clear hown hc
      go_wp2
      refine bodyPost_ret (v := .tuple #[.agg #[.slice none 0 0, .int .i64 0], .bool false]) (by simp [results, Tryd.results66, go_sem, r0, r1]) rfl ?_
      rw [HR.out]
      exact ParPost.no ht5

theorem fresh_offQ {w : World} {lo hi b o : Nat} {ty : TypeId} {A : Option Addr} {xs : List Value} {u : Value} (h : Fresh w lo hi ty A xs) (hb : b < lo) : Fresh (w.setCell ⟨b, o, none⟩ u) lo hi ty A xs := by
  rcases h with h | ⟨g, cs, h1, h2, h3, h4, h5, h6⟩
  · exact .inl h
  · exact .inr ⟨g, cs, h1, h2, h3, h4.off (by omega), h5, h6⟩
set_option maxHeartbeats 1600000 in
set_option maxRecDepth 100000 in
theorem specParseParty_any (s : List UInt8) (w : World) (hl : s.length ≤ 1048576) :
    Calls Tryd.prog 18 #[.string (strOf s)] w (ParPost (partyI s) w) := by
  have hZ := Whole.fresh w 28 #[.slice none 0 0, .int .i64 0]
  have ht0 := below1 w (.cells #[.slice none 0 0, .int .i64 0] 28)
  have HS := Lib.hid (party_same s)
  go_enter Tryd.func18, Tryd.ntmps18
  go_wp2_with fail
  refine (paParse_any s _ hl).mono ?_
  rintro e w1 ⟨A, c, rfl, hF, hb⟩
  rw [HS.out] at hF ⊢
  generalize hr : partyI s = r at hF ⊢
  have HRR := Lib.hid hr
  clear hr
  have ht := below_then ht0 hb (by simp)
  have hF2 := hF.more (lo' := w.heap.size + 1) (hi' := w1.heap.size) (by simp) (Nat.le_refl _)
  replace hZ := hZ.below hb
  clear hb ht0 hF
  obtain ⟨z0, z1⟩ := hZ.cells2
  have zf0 := hZ.open_ 0
  have zf1 := hZ.open_ 1
  have hzl := hZ.lt
  obtain ⟨xs, hxs⟩ : ∃ xs, xs = (r.map (·.1)).getD [] := ⟨_, rfl⟩
  obtain ⟨v, hv⟩ : ∃ v, v = (r.map (·.2)).getD 0 := ⟨_, rfl⟩
  have HXS := Lib.hid hxs
  have HV := Lib.hid hv
  rw [← hxs] at hF2 ⊢
  rw [← hv]
  have hZ3 : Whole ((w1.setCell ⟨w.heap.size, 0, none⟩ (.slice A xs.length c)).setCell ⟨w.heap.size, 1, none⟩ (.int .i64 v)) w.heap.size 28 #[.slice A xs.length c, .int .i64 v] := (hZ.set_ 0 (.slice A xs.length c)).set_ 1 (.int .i64 v)
  have ht5 := below_set (o := 1) (u := .int .i64 v) (below_set (o := 0) (u := .slice A xs.length c) ht (Nat.le_refl _)) (Nat.le_refl _)
  have hF5 := fresh_offQ (o := 1) (u := .int .i64 v) (fresh_offQ (b := w.heap.size) (o := 0) (u := .slice A xs.length c) hF2 (Nat.lt_succ_self _)) (Nat.lt_succ_self w.heap.size)
  obtain ⟨r0, r1⟩ := hZ3.cells2
  clear hF2 hxs hv
  go_wp2
  refine bodyPost_ret (v := .tuple #[.agg #[.slice A xs.length c, .int .i64 v], .bool r.isSome]) (by simp [results, Tryd.results18, go_sem, r0, r1]) rfl ?_
  rw [HRR.out]
  refine ⟨A, c, by rw [← HXS.out, ← HV.out], ?_, ht5⟩
  rw [← HXS.out]
  exact hF5.more (Nat.le_succ _) (by simp [World.setCell])

/-- The times, the seats, and whether there is a party. -/
def pXs (s : List UInt8) : List Int := ((partyI s).map (·.1)).getD []
def pSe (s : List UInt8) : Int := ((partyI s).map (·.2)).getD 0
def pOk (s : List UInt8) : Bool := (partyI s).isSome
theorem pXs_le (s : List UInt8) : (pXs s).length ≤ 1048576 := by
  have h : ∀ x, partyI s = some x → x.1.length ≤ 8 := by
    intro x hx
    unfold partyI at hx
    split at hx
    · split at hx
      · rename_i h
        cases hx
        exact (isParty_parts.1 h).1.2
      · cases hx
    · cases hx
  unfold pXs
  cases hp : partyI s with
  | none => simp
  | some x => have := h x hp; simp; omega
/-- What a call hands back that reads a party. -/
def PartyPostQ (xs : List Int) (s : Int) (ok : Bool) (w : World) (e : Ending) (w' : World) : Prop :=
  ∃ (A : Option Addr) (c : Nat), e = .returned (.tuple #[.agg #[.slice A xs.length c, .int .i64 s], .bool ok]) ∧ Fresh w' w.heap.size w'.heap.size 3 A (nums xs) ∧ Below w.heap.size w w'
theorem specParseParty_on (s : List UInt8) (w : World) (hl : s.length ≤ 1048576) :
    Calls Tryd.prog 18 #[.string (strOf s)] w (PartyPostQ (pXs s) (pSe s) (pOk s) w) := specParseParty_any s w hl
theorem implParseParty_on (s : List UInt8) (w : World) (hl : s.length ≤ 1048576) (hL : LibLay w) :
    Calls Tryd.prog 19 #[.string (strOf s)] w (PartyPostQ (pXs s) (pSe s) (pOk s) w) := implParseParty_any s w hl hL
end Go.Proofs.YtedkanncdkofaaaDoor

namespace Go.Proofs.YtedkanncdkofaaaDoor
open Go.RowKit

set_option maxHeartbeats 12800000 in
set_option maxRecDepth 100000 in
set_option linter.unusedSimpArgs false in
set_option linter.unusedVariables false in
theorem lawParseParty_small (s0_ : List UInt8) (w : World)  (hL : LibLay w) (hs0_ : s0_.length ≤ 1048576)  :
    Calls Tryd.prog 4 #[.string (strOf s0_)] w fun e w' => e = .returned (.bool true) ∧ Below w.heap.size w w' := by
  have ht := Below.refl w.heap.size w
  have hlen : ((pXs s0_)).length ≤ 1048576 := pXs_le _
  have hls0_ : ¬ ((s0_.length : Int) > 1048576) := by omega
  go_enter Tryd.func4, Tryd.ntmps4
  -- region 3
  go_wp2_with fail
  refine (specParseParty_on s0_ _ hs0_).mono ?_
  rintro e v1 ⟨B0, q0, rfl, hF0, hb⟩
  have hz1 : w.heap.size ≤ v1.heap.size := by have := hb.size; simpa using this
  replace ht := below_then ht hb ht.size
  replace hF0 := hF0.more (lo' := w.heap.size) (hi' := v1.heap.size) (by simp) (Nat.le_refl _)
  have hR0 := Whole.fresh v1 28 #[.slice B0 ((pXs s0_)).length q0, .int .i64 (pSe s0_)]
  replace ht := ht.alloc ht.size (.cells #[.slice B0 ((pXs s0_)).length q0, .int .i64 (pSe s0_)] 28)
  replace hF0 := hF0.alloc (.cells #[.slice B0 ((pXs s0_)).length q0, .int .i64 (pSe s0_)] 28)
  clear hb
  obtain ⟨hR0_0, hR0_1⟩ := hR0.cells2
  have hR0_l := hR0.lt
  -- region 4
  go_wp2_with fail
  refine (implParseParty_on s0_ _ hs0_ (hL.below ht)).mono ?_
  rintro e v2 ⟨B1, q1, rfl, hF1, hb⟩
  have hz2 : v1.heap.size + 1 ≤ v2.heap.size := by have := hb.size; simpa using this
  replace ht := below_then ht hb ht.size
  replace hF0 := hF0.below hb
  replace hR0 := hR0.below hb
  replace hF1 := hF1.more (lo' := v1.heap.size + 1) (hi' := v2.heap.size) (by simp) (Nat.le_refl _)
  have hR1 := Whole.fresh v2 28 #[.slice B1 ((pXs s0_)).length q1, .int .i64 (pSe s0_)]
  replace ht := ht.alloc ht.size (.cells #[.slice B1 ((pXs s0_)).length q1, .int .i64 (pSe s0_)] 28)
  replace hF0 := hF0.alloc (.cells #[.slice B1 ((pXs s0_)).length q1, .int .i64 (pSe s0_)] 28)
  replace hR0 := hR0.alloc (.cells #[.slice B1 ((pXs s0_)).length q1, .int .i64 (pSe s0_)] 28)
  replace hF1 := hF1.alloc (.cells #[.slice B1 ((pXs s0_)).length q1, .int .i64 (pSe s0_)] 28)
  clear hb
  clear hR0_0 hR0_1 hR0_l
  obtain ⟨hR0_0, hR0_1⟩ := hR0.cells2
  have hR0_l := hR0.lt
  obtain ⟨hR1_0, hR1_1⟩ := hR1.cells2
  have hR1_l := hR1.lt
  -- region 5
  go_wp2_with fail
  refine (eqParty_yes B1 B0 ((pXs s0_)).length q1 q0 ((pXs s0_)) (pSe s0_) _ (by exact hF1.holds) (by exact hF0.holds) rfl (by omega)).mono ?_
  rintro e v3 ⟨rfl, hb⟩
  have hz3 : v2.heap.size + 1 ≤ v3.heap.size := by have := hb.size; simpa using this
  replace ht := below_then ht hb ht.size
  replace hF0 := hF0.below hb
  replace hR0 := hR0.below hb
  replace hF1 := hF1.below hb
  replace hR1 := hR1.below hb
  clear hb
  clear hR0_0 hR0_1 hR0_l hR1_0 hR1_1 hR1_l
  obtain ⟨hR0_0, hR0_1⟩ := hR0.cells2
  have hR0_l := hR0.lt
  obtain ⟨hR1_0, hR1_1⟩ := hR1.cells2
  have hR1_l := hR1.lt
  -- region 8
  go_wp2_with fail
  refine (markParty_any B1 ((pXs s0_)).length q1 _ _ _ (pSe s0_) 1 _ hF1 (by rw [nums_len]) (by omega) (by omega) hlen).mono ?_
  rintro e v4 ⟨rfl, hs, hM⟩
  have hsz := ht.size
  replace ht := hs.below ht (by omega) hsz
  replace hF0 := hs.fresh hF0 (by omega)
  replace hR0 := hs.whole hR0 (by omega)
  replace hR1 := hs.whole hR1 (by omega)
  clear hs hF1 hsz
  clear hR0_0 hR0_1 hR0_l hR1_0 hR1_1 hR1_l
  obtain ⟨hR0_0, hR0_1⟩ := hR0.cells2
  have hR0_l := hR0.lt
  obtain ⟨hR1_0, hR1_1⟩ := hR1.cells2
  have hR1_l := hR1.lt
  -- region 10
  go_wp2_with fail
  refine (heldParty_any B1 ((pXs s0_)).length q1 (pSe s0_) 1 _ (by exact hM.holds) (by omega) (by omega) hlen).mono ?_
  rintro e v5 ⟨rfl, hb⟩
  have hz5 : v4.heap.size ≤ v5.heap.size := by have := hb.size; simpa using this
  replace ht := below_then ht hb ht.size
  replace hF0 := hF0.below hb
  replace hR0 := hR0.below hb
  replace hR1 := hR1.below hb
  replace hM := hM.below hb
  clear hb
  have hm0 : (0 : Int) ≤ 1 + (((pXs s0_)).length : Int) := by omega
  clear hR0_0 hR0_1 hR0_l hR1_0 hR1_1 hR1_l
  obtain ⟨hR0_0, hR0_1⟩ := hR0.cells2
  have hR0_l := hR0.lt
  obtain ⟨hR1_0, hR1_1⟩ := hR1.cells2
  have hR1_l := hR1.lt
  -- region 15
  go_wp2_with fail
  refine (implParseParty_on s0_ _ hs0_ (hL.below ht)).mono ?_
  rintro e v6 ⟨B2, q2, rfl, hF2, hb⟩
  have hz6 : v5.heap.size ≤ v6.heap.size := by have := hb.size; simpa using this
  replace ht := below_then ht hb ht.size
  replace hF0 := hF0.below hb
  replace hR0 := hR0.below hb
  replace hR1 := hR1.below hb
  replace hM := hM.below hb
  replace hF2 := hF2.more (lo' := v5.heap.size) (hi' := v6.heap.size) (by simp) (Nat.le_refl _)
  have hR2 := Whole.fresh v6 28 #[.slice B2 ((pXs s0_)).length q2, .int .i64 (pSe s0_)]
  replace ht := ht.alloc ht.size (.cells #[.slice B2 ((pXs s0_)).length q2, .int .i64 (pSe s0_)] 28)
  replace hF0 := hF0.alloc (.cells #[.slice B2 ((pXs s0_)).length q2, .int .i64 (pSe s0_)] 28)
  replace hR0 := hR0.alloc (.cells #[.slice B2 ((pXs s0_)).length q2, .int .i64 (pSe s0_)] 28)
  replace hR1 := hR1.alloc (.cells #[.slice B2 ((pXs s0_)).length q2, .int .i64 (pSe s0_)] 28)
  replace hM := hM.alloc (.cells #[.slice B2 ((pXs s0_)).length q2, .int .i64 (pSe s0_)] 28)
  replace hF2 := hF2.alloc (.cells #[.slice B2 ((pXs s0_)).length q2, .int .i64 (pSe s0_)] 28)
  clear hb
  clear hR0_0 hR0_1 hR0_l hR1_0 hR1_1 hR1_l
  obtain ⟨hR0_0, hR0_1⟩ := hR0.cells2
  have hR0_l := hR0.lt
  obtain ⟨hR1_0, hR1_1⟩ := hR1.cells2
  have hR1_l := hR1.lt
  obtain ⟨hR2_0, hR2_1⟩ := hR2.cells2
  have hR2_l := hR2.lt
  -- region 16
  go_wp2_with fail
  refine (eqParty_yes B2 B0 ((pXs s0_)).length q2 q0 ((pXs s0_)) (pSe s0_) _ (by exact hF2.holds) (by exact hF0.holds) rfl (by omega)).mono ?_
  rintro e v7 ⟨rfl, hb⟩
  have hz7 : v6.heap.size + 1 ≤ v7.heap.size := by have := hb.size; simpa using this
  replace ht := below_then ht hb ht.size
  replace hF0 := hF0.below hb
  replace hR0 := hR0.below hb
  replace hR1 := hR1.below hb
  replace hM := hM.below hb
  replace hF2 := hF2.below hb
  replace hR2 := hR2.below hb
  clear hb
  clear hR0_0 hR0_1 hR0_l hR1_0 hR1_1 hR1_l hR2_0 hR2_1 hR2_l
  obtain ⟨hR0_0, hR0_1⟩ := hR0.cells2
  have hR0_l := hR0.lt
  obtain ⟨hR1_0, hR1_1⟩ := hR1.cells2
  have hR1_l := hR1.lt
  obtain ⟨hR2_0, hR2_1⟩ := hR2.cells2
  have hR2_l := hR2.lt
  -- region 19
  go_wp2_with fail
  refine (heldParty_any B1 ((pXs s0_)).length q1 (pSe s0_) 1 _ (by exact hM.holds) (by omega) (by omega) hlen).mono ?_
  rintro e v8 ⟨rfl, hb⟩
  have hz8 : v7.heap.size ≤ v8.heap.size := by have := hb.size; simpa using this
  replace ht := below_then ht hb ht.size
  replace hF0 := hF0.below hb
  replace hR0 := hR0.below hb
  replace hR1 := hR1.below hb
  replace hM := hM.below hb
  replace hF2 := hF2.below hb
  replace hR2 := hR2.below hb
  clear hb
  clear hR0_0 hR0_1 hR0_l hR1_0 hR1_1 hR1_l hR2_0 hR2_1 hR2_l
  obtain ⟨hR0_0, hR0_1⟩ := hR0.cells2
  have hR0_l := hR0.lt
  obtain ⟨hR1_0, hR1_1⟩ := hR1.cells2
  have hR1_l := hR1.lt
  obtain ⟨hR2_0, hR2_1⟩ := hR2.cells2
  have hR2_l := hR2.lt
  go_wp2
  go_ret
  exact ⟨rfl, ht⟩

set_option maxRecDepth 100000 in
set_option linter.unusedVariables false in
theorem lawParseParty_big (s0_ : List UInt8) (w : World) (hbig : 1048576 < s0_.length) :
    Calls Tryd.prog 4 #[.string (strOf s0_)] w fun e w' => e = .returned (.bool true) ∧ Below w.heap.size w w' := by
  have hl : (s0_.length : Int) > 1048576 := by omega
  go_enter Tryd.func4, Tryd.ntmps4
  go_wp2
  go_ret
  exact ⟨rfl, Below.refl _ _⟩

theorem lawParseParty_all (s0_ : List UInt8) (w : World) (hL : LibLay w) :
    Calls Tryd.prog 4 #[.string (strOf s0_)] w fun e w' => e = .returned (.bool true) ∧ Below w.heap.size w w' := by
  rcases Nat.lt_or_ge 1048576 s0_.length with h | h
  · exact lawParseParty_big s0_ w h
  · exact lawParseParty_small s0_ w hL h
end Go.Proofs.YtedkanncdkofaaaDoor
