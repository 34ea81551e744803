/- Numbers in lowest terms: plain mathematics on what the contracts say. -/
import Derived.Test.YtgefidffhdanhaaNumI
namespace Go.Proofs.Ytgefidffhdanhaa

theorem cop_of_chk {n d : Int} (h : chk n d = 0) : Int.gcd n d = 1 := by
  have := gcd_of_chk h; unfold gcdM at this; omega
theorem chk_of {n d : Int} (f : Fit n d) (h : Int.gcd n d = 1) : chk n d = 0 := by
  rw [chk_in (by have := f.nlo; have := f.nhi; have := f.dlo; have := f.dhi; omega), if_neg (by unfold gcdM; omega)]

theorem dvd_cop {x y d : Int} (h : Int.gcd x y = 1) (hd : y ∣ x * d) : y ∣ d := by
  rw [← Int.natAbs_dvd_natAbs] at hd ⊢
  rw [Int.natAbs_mul] at hd
  refine Nat.Coprime.dvd_of_dvd_mul_left ?_ hd
  rw [Nat.coprime_comm]; exact h

/-- one number has one form in lowest terms. -/
theorem form_one {n d x y : Int} (hd : 0 < d) (hy : 0 < y) (h1 : Int.gcd n d = 1) (h2 : Int.gcd x y = 1) (h : n * y = x * d) : n = x ∧ d = y := by
  have a1 : y ∣ d := dvd_cop h2 ⟨n, by rw [← h, Int.mul_comm]⟩
  have a2 : d ∣ y := dvd_cop h1 ⟨x, by rw [h, Int.mul_comm]⟩
  have e := Int.dvd_antisymm (by omega) (by omega) a1 a2
  subst e
  exact ⟨Int.eq_of_mul_eq_mul_right (by omega) h, rfl⟩

theorem low_fac {n d : Int} (hd : 0 < d) : lowN n d * gcdM n d = n ∧ lowD n d * gcdM n d = d ∧ 0 < lowD n d ∧ Int.gcd (lowN n d) (lowD n d) = 1 := by
  have hg := gcdM_pos n d (by omega)
  have h1 : (gcdM n d) ∣ n := Int.gcd_dvd_left ..
  have h2 : (gcdM n d) ∣ d := Int.gcd_dvd_right ..
  rw [lowN_pos (by omega), lowD_pos (by omega)]
  have e1 : n.tdiv (gcdM n d) * gcdM n d = n := Int.tdiv_mul_cancel h1
  have e2 : d.tdiv (gcdM n d) * gcdM n d = d := Int.tdiv_mul_cancel h2
  refine ⟨e1, e2, ?_, ?_⟩
  · refine Int.pos_of_mul_pos_left (b := gcdM n d) ?_ (by omega)
    omega
  · have h3 := Int.gcd_ediv_gcd_ediv_gcd (i := n) (j := d) (by unfold gcdM at hg; omega)
    have e3 : n / (Int.gcd n d : Int) = n.tdiv (gcdM n d) := by
      refine Int.eq_of_mul_eq_mul_right (a := gcdM n d) (by omega) ?_
      rw [e1]; exact Int.ediv_mul_cancel h1
    have e4 : d / (Int.gcd n d : Int) = d.tdiv (gcdM n d) := by
      refine Int.eq_of_mul_eq_mul_right (a := gcdM n d) (by omega) ?_
      rw [e2]; exact Int.ediv_mul_cancel h2
    rw [e3, e4] at h3; exact h3

theorem low_turn {n d : Int} (h : ¬ d = 0) : lowT (-n) (-d) = lowT n d := by
  have eg : gcdM (-n) (-d) = gcdM n d := by unfold gcdM; simp
  have e1 : lowN (-n) (-d) = lowN n d := by
    unfold lowN; rw [eg]
    by_cases h1 : d < 0
    · rw [if_pos h1, if_neg (by omega)]
    · rw [if_neg h1, if_pos (by omega), Int.neg_neg]
  have e2 : lowD (-n) (-d) = lowD n d := by unfold lowD; rw [eg, Int.natAbs_neg]
  unfold lowT lowOk; rw [e1, e2]

theorem low_eq_pos {n d x y : Int} (hd : 0 < d) (hc : chk x y = 0) (h : n * y = x * d) : lowT n d = (x, y, 0) := by
  obtain ⟨f1, f2, f3, f4⟩ := low_fac (n := n) hd
  have hg := gcdM_pos n d (by omega)
  have f := fit_of_chk hc
  have k : lowN n d * y = x * lowD n d := by
    refine Int.eq_of_mul_eq_mul_right (a := gcdM n d) (by omega) ?_
    grind
  obtain ⟨k1, k2⟩ := form_one f3 (by have := f.dlo; omega) f4 (cop_of_chk hc) k
  have := f.nlo; have := f.nhi; have := f.dhi
  exact (lowT_of k1.symm k2.symm (by omega) (by omega) (by omega)).symm

/-- what equals a valid number is that number in lowest terms. -/
theorem low_eq {n d x y : Int} (hd : ¬ d = 0) (hc : chk x y = 0) (h : n * y = x * d) : lowT n d = (x, y, 0) := by
  by_cases h0 : 0 < d
  · exact low_eq_pos h0 hc h
  · rw [← low_turn hd]
    exact low_eq_pos (by omega) hc (by rw [Int.neg_mul, h, Int.mul_neg])

theorem low_is_pos {n d : Int} (hd : 0 < d) : (∃ x y, lowT n d = (x, y, 0) ∧ chk x y = 0 ∧ n * y = x * d) ∨ (lowT n d = (0, 0, 8) ∧ ∀ x y, chk x y = 0 → ¬ n * y = x * d) := by
  obtain ⟨f1, f2, f3, f4⟩ := low_fac (n := n) hd
  by_cases h : lowOk n d = true
  · have h' : -1000000000 ≤ lowN n d ∧ lowN n d ≤ 1000000000 ∧ lowD n d ≤ 1000000000 := of_decide_eq_true h
    refine .inl ⟨_, _, lowT_yes h, chk_of ⟨h'.1, h'.2.1, by omega, h'.2.2⟩ f4, ?_⟩
    generalize lowN n d = u at *
    generalize lowD n d = v at *
    generalize gcdM n d = g at *
    subst f1 f2
    grind
  · refine .inr ⟨lowT_not h, fun x y hc hxy => h ?_⟩
    have e := low_eq_pos hd hc hxy
    rw [lowT_not h] at e
    simp at e

theorem low_is {n d : Int} (hd : ¬ d = 0) : (∃ x y, lowT n d = (x, y, 0) ∧ chk x y = 0 ∧ n * y = x * d) ∨ (lowT n d = (0, 0, 8) ∧ ∀ x y, chk x y = 0 → ¬ n * y = x * d) := by
  by_cases h0 : 0 < d
  · exact low_is_pos h0
  · have := low_is_pos (n := -n) (d := -d) (by omega)
    rw [low_turn hd] at this
    rcases this with ⟨x, y, h1, h2, h3⟩ | ⟨h1, h2⟩
    · exact .inl ⟨x, y, h1, h2, by rw [Int.neg_mul, Int.mul_neg] at h3; omega⟩
    · exact .inr ⟨h1, fun x y hc hxy => h2 x y hc (by rw [Int.neg_mul, Int.mul_neg, hxy])⟩

theorem low_congr {n d m e : Int} (hd : ¬ d = 0) (he : ¬ e = 0) (h : n * e = m * d) : lowT n d = lowT m e := by
  rcases low_is (n := m) he with ⟨x, y, h1, h2, h3⟩ | ⟨h1, h2⟩
  · rw [h1]
    refine low_eq hd h2 ?_
    refine Int.eq_of_mul_eq_mul_right (a := e) he ?_
    have : n * e * y = m * d * y := by rw [h]
    have : m * y * d = x * e * d := by rw [h3]
    grind
  · rcases low_is (n := n) hd with ⟨x, y, k1, k2, k3⟩ | ⟨k1, k2⟩
    · exfalso
      refine h2 x y k2 ?_
      refine Int.eq_of_mul_eq_mul_right (a := d) hd ?_
      have : n * e * y = m * d * y := by rw [h]
      have : n * y * e = x * d * e := by rw [k3]
      grind
    · rw [h1, k1]

end Go.Proofs.Ytgefidffhdanhaa
