/- Decimal digits as lists of bytes: plain mathematics, no program. -/
import Derived.Test.YtgefidffhdanhaaRows
namespace Go.Proofs.Ytgefidffhdanhaa

/-- the last decimal digit, as a byte. -/
def dig (n : Nat) : UInt8 := UInt8.ofNat (48 + n % 10)
theorem dig_nat (n : Nat) : (dig n).toNat = 48 + n % 10 := by
  unfold dig; rw [UInt8.toNat_ofNat']; omega
/-- the decimal digits of a number. -/
def digs (n : Nat) : List UInt8 := if n < 10 then [dig n] else digs (n / 10) ++ [dig n]
theorem digs_lt {n : Nat} (h : n < 10) : digs n = [dig n] := by rw [digs, if_pos h]
theorem digs_ge {n : Nat} (h : ¬ n < 10) : digs n = digs (n / 10) ++ [dig n] := by rw [digs, if_neg h]

/-- at least so many digits. -/
def padS : Nat → Nat → List UInt8
  | 0, n => if n = 0 then [] else digs n
  | k + 1, n => padS k (n / 10) ++ [dig n]
theorem padS_zero (n : Nat) (h : ¬ n = 0) : padS 0 n = padS 0 (n / 10) ++ [dig n] := by
  unfold padS
  rw [if_neg h]
  by_cases h1 : n < 10
  · rw [digs_lt h1, if_pos (by omega)]; rfl
  · rw [digs_ge h1, if_neg (by omega)]
theorem padS_pred (k n : Nat) (h : 0 < n ∨ 0 < k) : padS k n = padS (k - 1) (n / 10) ++ [dig n] := by
  cases k with
  | zero => exact padS_zero n (by omega)
  | succ k => rfl
theorem padS_none : padS 0 0 = [] := rfl
theorem padS_one (n : Nat) : padS 1 n = digs n := by
  show padS 0 (n / 10) ++ [dig n] = _
  by_cases h1 : n < 10
  · rw [digs_lt h1]; unfold padS; rw [if_pos (by omega)]; rfl
  · rw [digs_ge h1]; unfold padS; rw [if_neg (by omega)]

theorem digs_len_pos (n : Nat) : 1 ≤ (digs n).length := by
  rw [digs]; split <;> simp
theorem digs_len (j : Nat) : ∀ n, n < 10 ^ (j + 1) → (digs n).length ≤ j + 1 := by
  induction j with
  | zero => intro n h; rw [digs_lt (by simpa using h)]; simp
  | succ j ih =>
    intro n h
    by_cases h1 : n < 10
    · rw [digs_lt h1]; simp
    · rw [digs_ge h1]
      have := ih (n / 10) (by rw [Nat.div_lt_iff_lt_mul (by omega)]; rw [Nat.pow_succ] at h; exact h)
      simp; omega
theorem padS_len (k : Nat) : ∀ n j, n < 10 ^ j → (padS k n).length ≤ max k j := by
  induction k with
  | zero =>
    intro n j h
    unfold padS
    split
    · simp
    · cases j with
      | zero => simp at h; omega
      | succ j => have := digs_len j n h; omega
  | succ k ih =>
    intro n j h
    show (padS k (n / 10) ++ [dig n]).length ≤ _
    cases j with
    | zero =>
      have := ih (n / 10) 0 (by simp at h ⊢; omega)
      simp; omega
    | succ j =>
      have := ih (n / 10) j (by rw [Nat.div_lt_iff_lt_mul (by omega)]; rw [Nat.pow_succ] at h; exact h)
      simp; omega

/-- with zeros in front. -/
theorem padS_zeros (k : Nat) : ∀ n, (digs n).length ≤ k → padS k n = List.replicate (k - (digs n).length) 48 ++ digs n := by
  induction k with
  | zero => intro n h; have := digs_len_pos n; omega
  | succ k ih =>
    intro n h
    show padS k (n / 10) ++ [dig n] = _
    by_cases h1 : n < 10
    · have h0 : n / 10 = 0 := by omega
      rw [digs_lt h1, h0]
      have hz : padS k 0 = List.replicate k 48 := by
        clear ih h
        induction k with
        | zero => rfl
        | succ k ih => show padS k (0 / 10) ++ [dig 0] = _; rw [Nat.zero_div, ih, List.replicate_succ']; rfl
      rw [hz]; rfl
    · rw [digs_ge h1] at h ⊢
      simp at h
      rw [ih (n / 10) (by omega), List.append_assoc]
      congr 2
      simp
end Go.Proofs.Ytgefidffhdanhaa
