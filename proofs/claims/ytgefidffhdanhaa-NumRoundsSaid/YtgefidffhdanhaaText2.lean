/- What digits say. -/
import Derived.Test.YtgefidffhdanhaaText
namespace Go.Proofs.Ytgefidffhdanhaa

/-- a decimal digit. -/
def isDig (c : UInt8) : Bool := decide (48 ≤ c.toNat) && decide (c.toNat ≤ 57)
/-- what digits say. -/
def valN (l : List UInt8) : Nat := l.foldl (fun a c => 10 * a + (c.toNat - 48)) 0
theorem valN_snoc (l : List UInt8) (c : UInt8) : valN (l ++ [c]) = 10 * valN l + (c.toNat - 48) := by unfold valN; rw [List.foldl_append]; rfl
theorem foldl_digits_lt (l : List UInt8) : ∀ a : Nat, l.all isDig = true → l.foldl (fun a c => 10 * a + (c.toNat - 48)) a < (a + 1) * 10 ^ l.length := by
  induction l with
  | nil => intro a _; simp
  | cons c l ih =>
    intro a h
    rw [List.all_cons, Bool.and_eq_true] at h
    have h2 : c.toNat ≤ 57 := by
      have := h.1
      simp [isDig] at this
      exact this.2
    have h3 := ih (10 * a + (c.toNat - 48)) h.2
    rw [List.foldl_cons, List.length_cons, Nat.pow_succ]
    have h4 : (10 * a + (c.toNat - 48) + 1) * 10 ^ l.length ≤ ((a + 1) * 10) * 10 ^ l.length := Nat.mul_le_mul_right _ (by omega)
    have e : (a + 1) * (10 ^ l.length * 10) = ((a + 1) * 10) * 10 ^ l.length := by rw [Nat.mul_assoc, Nat.mul_comm 10]
    omega
theorem valN_lt (l : List UInt8) (h : l.all isDig = true) : valN l < 10 ^ l.length := by
  have := foldl_digits_lt l 0 h
  unfold valN; omega
theorem dig_isDig (n : Nat) : isDig (dig n) = true := by unfold isDig; rw [dig_nat]; simp; omega
theorem digs_all (n : Nat) : (digs n).all isDig = true := by
  induction n using Nat.strongRecOn with
  | _ n ih =>
    by_cases h : n < 10
    · rw [digs_lt h]; simp [dig_isDig]
    · rw [digs_ge h, List.all_append, ih (n / 10) (by omega)]; simp [dig_isDig]
theorem valN_digs (n : Nat) : valN (digs n) = n := by
  induction n using Nat.strongRecOn with
  | _ n ih =>
    by_cases h : n < 10
    · rw [digs_lt h]; show 10 * 0 + ((dig n).toNat - 48) = n; rw [dig_nat]; omega
    · rw [digs_ge h, valN_snoc, ih (n / 10) (by omega), dig_nat]; omega
end Go.Proofs.Ytgefidffhdanhaa
