/- A decimal, parsed: plain mathematics. -/
import Derived.Test.YtgefidffhdanhaaMathF
import Derived.Test.YtgefidffhdanhaaNumN
namespace Go.Proofs.Ytgefidffhdanhaa

theorem digs_long (j : Nat) : ∀ n, 10 ^ j ≤ n → j < (digs n).length := by
  induction j with
  | zero => intro n _; have := digs_len_pos n; omega
  | succ j ih =>
    intro n h
    have h10 : 10 ≤ n := by
      have : 1 ≤ 10 ^ j := Nat.one_le_pow _ _ (by omega)
      rw [Nat.pow_succ] at h; omega
    rw [digs_ge (by omega), List.length_append]
    have := ih (n / 10) (by rw [Nat.le_div_iff_mul_le (by omega)]; rw [Nat.pow_succ] at h; exact h)
    simp only [List.length_cons, List.length_nil]
    omega

theorem padS_all (k : Nat) : ∀ n, (padS k n).all isDig = true := by
  induction k with
  | zero => intro n; unfold padS; split; rfl; exact digs_all n
  | succ k ih => intro n; show (padS k (n / 10) ++ [dig n]).all isDig = true; rw [List.all_append, ih]; simp [dig_isDig]
theorem padS_exact (k : Nat) : ∀ n, n < 10 ^ k → (padS k n).length = k ∧ valN (padS k n) = n := by
  induction k with
  | zero => intro n h; have : n = 0 := by simpa using h
            subst this; exact ⟨rfl, rfl⟩
  | succ k ih =>
    intro n h
    show (padS k (n / 10) ++ [dig n]).length = _ ∧ valN (padS k (n / 10) ++ [dig n]) = n
    have h0 : n / 10 < 10 ^ k := by rw [Nat.div_lt_iff_lt_mul (by omega)]; rw [Nat.pow_succ] at h; exact h
    obtain ⟨i1, i2⟩ := ih (n / 10) h0
    refine ⟨by rw [List.length_append, i1]; rfl, ?_⟩
    rw [valN_snoc, i2, dig_nat]
    omega

theorem p10_nat (k : Nat) : p10 k = ((10 ^ k : Nat) : Int) := by unfold p10; simp

/-- how a decimal is parsed. -/
theorem parse_dec {q : Int} {p : Nat} (hp : 1 ≤ p) (hp9 : p ≤ 9) :
    parseT (decS q p) = if (q.natAbs : Int) / p10 p < 1000000000 then lowT q (p10 p) else (0, 0, 1) := by
  have hP := p10_nat p
  have hP0 : 0 < 10 ^ p := Nat.pow_pos (by omega)
  obtain ⟨W, hW⟩ : ∃ W : Nat, (q.natAbs : Int) / p10 p = (W : Int) := ⟨q.natAbs / 10 ^ p, by rw [hP]; rfl⟩
  obtain ⟨m, hm⟩ : ∃ m : Nat, (q.natAbs : Int) % p10 p = (m : Int) := ⟨q.natAbs % 10 ^ p, by rw [hP]; rfl⟩
  have hm2 : m < 10 ^ p := by
    have := Int.emod_lt_of_pos (q.natAbs : Int) (show 0 < p10 p by omega)
    omega
  have hsum : (W : Int) * p10 p + (m : Int) = (q.natAbs : Int) := by
    have := Int.mul_ediv_add_emod (q.natAbs : Int) (p10 p)
    rw [hW, hm, Int.mul_comm] at this
    exact this
  obtain ⟨e1, e2⟩ := padS_exact p m hm2
  have D : decS q p = signText q (digs W ++ 46 :: padS p m) := by
    unfold decS
    rw [if_neg (by omega), hW, hm, numText1]
    unfold numText
    rw [Int.toNat_natCast, Int.toNat_natCast, Int.toNat_natCast, List.append_nil]
  have hd := digs_all W
  have hr : (46 :: padS p m) = [] ∨ isMark ((46 :: padS p m).getD 0 0) = true := .inr rfl
  have hM : cutM (digs W ++ 46 :: padS p m) = 46 := by rw [cutM_digs hd hr]; rfl
  have hB : cutB (digs W ++ 46 :: padS p m) = padS p m := by rw [cutB_digs hd hr]; rfl
  have hF := cutF_digs hd hr
  unfold parseT
  rw [D, body_told, hM, if_pos rfl, hF, hB, hW]
  have hb : digR (padS p m) 9 = ((m : Int), true) := by rw [digR_yes ⟨⟨by omega, by omega⟩, padS_all p m⟩, e2]
  have hs : factorOf (signText q (digs W ++ 46 :: padS p m)) = if q < 0 then -1 else 1 := by
    unfold factorOf; rw [neg_told]; simp
  by_cases hl : (W : Int) < 1000000000
  · rw [if_pos hl]
    have h1 := digs_len 8 W (by omega)
    have h2 := digs_len_pos W
    have hf : digR (digs W) 9 = ((W : Int), true) := by rw [digR_yes ⟨⟨h2, by omega⟩, hd⟩, valN_digs]
    rw [decR_yes ⟨⟨by rw [hf], by rw [hb]⟩, ?_⟩, valN_digs, e1, e2, hs, hsum]
    · congr 1
      split <;> omega
    · rintro ⟨k1, k2⟩
      by_cases h9 : W < 10
      · rw [digs_lt h9] at k1; simp at k1
      · have := digs_zero W
        exact this ⟨k1, k2⟩
  · rw [if_neg hl, decR_no]
    rintro ⟨⟨k, -⟩, -⟩
    have k1 := (digR_true k).1.2
    have := digs_long 9 W (by omega)
    omega

theorem parse_dec0 {q : Int} (h : chk q 1 = 0) : parseT (decS q 0) = (q, 1, 0) := by
  rw [← parse_told h]
  congr 1
  unfold decS toldS
  rw [if_pos rfl, if_pos rfl, p10_zero, Int.ediv_one]
end Go.Proofs.Ytgefidffhdanhaa
