/- Rounding: plain mathematics. -/
import Derived.Test.YtgefidffhdanhaaMathG
namespace Go.Proofs.Ytgefidffhdanhaa

theorem round_near (n : Int) {d : Int} (hd : 0 < d) : 2 * ((roundM n d * d - n).natAbs : Int) ≤ d := by
  have e1 := Int.mul_ediv_add_emod n d
  have e2 := Int.emod_nonneg n (by omega : d ≠ 0)
  have e3 := Int.emod_lt_of_pos n hd
  have e4 : d * (n / d) = n / d * d := Int.mul_comm _ _
  unfold roundM
  split
  · rw [Int.add_mul, Int.one_mul]; omega
  · rename_i h
    have : ¬ d < 2 * (n % d) := fun k => h (.inl k)
    omega

/-- below, above, and nearest. -/
structure RndF (n d f c r : Int) : Prop where
  fl : -1000000000 ≤ f ∧ f ≤ 1000000000
  cf : f ≤ c ∧ c ≤ f + 1
  is : (c == f) = (d == 1)
  rc : r = f ∨ r = c
  g0 : 0 ≤ n - f * d
  g1 : n - f * d < d
  lo : 2 * (n - f * d) < d → r = f
  hi : d < 2 * (n - f * d) → r = c
  ev : 2 * (n - f * d) = d → (r.tmod 2 != 0) = false

theorem rnd_facts {n d : Int} (h : chk n d = 0) : RndF n d (n / d) (ceilM n d) (roundM n d) := by
  have f := fit_of_chk h
  have hd := den_pos h
  have h1 := f.nlo; have h2 := f.nhi
  have e1 := Int.mul_ediv_add_emod n d
  have e2 := Int.emod_nonneg n (by omega : d ≠ 0)
  have e3 := Int.emod_lt_of_pos n hd
  have e4 : d * (n / d) = n / d * d := Int.mul_comm _ _
  have q := ediv_bd n d 1000000000 h1 h2 hd
  have hg : n - n / d * d = n % d := by omega
  have hz : n % d = 0 ↔ d = 1 := by
    constructor
    · intro k
      have dv : d ∣ n := Int.dvd_of_emod_eq_zero k
      have g := cop_of_chk h
      have : (Int.gcd n d : Int) = d := by
        have := Int.gcd_eq_right (a := n) (b := d) (by omega) dv
        exact this
      omega
    · intro k; subst k; exact Int.emod_one n
  have hc : ceilM n d = if n % d = 0 then n / d else n / d + 1 := by
    unfold ceilM
    by_cases k : n % d = 0
    · rw [if_pos k]
      have : (-n) / d = -(n / d) := Int.neg_ediv_of_dvd (Int.dvd_of_emod_eq_zero k)
      omega
    · rw [if_neg k]
      have := ((Int.ediv_emod_unique (a := -n) (b := d) (r := d - n % d) (q := -(n / d) - 1) hd).2 ⟨by rw [Int.mul_sub, Int.mul_neg]; omega, by omega, by omega⟩).1
      omega
  refine ⟨q, by rw [hc]; split <;> omega, ?_, ?_, by omega, by omega, ?_, ?_, ?_⟩
  · rw [hc, Bool.eq_iff_iff, beq_iff_eq, beq_iff_eq]
    constructor
    · intro k; split at k
      · rename_i j; exact hz.1 j
      · omega
    · intro k; rw [if_pos (hz.2 k)]
  · unfold roundM
    split
    · rename_i k
      refine .inr ?_
      rw [hc, if_neg]
      rintro j
      rcases k with k | ⟨k, _⟩ <;> omega
    · exact .inl rfl
  · rw [hg]; intro k; exact roundM_down k
  · rw [hg]; intro k; rw [roundM_up k, hc, if_neg (by omega)]
  · rw [hg]; intro k
    rw [tmod2]
    refine decide_eq_false (fun j => j ?_)
    by_cases e : (n / d) % 2 = 0
    · rw [roundM_even k e]; exact e
    · rw [roundM_odd k e]; omega

theorem dec_len {n d : Int} {p : Nat} (f : Fit n d) (hp : p ≤ 9) : (decS (roundM (n * p10 p) d) p).length ≤ 100 := by
  have b := dec_bd f hp
  obtain ⟨s1, s2⟩ := p10_bd p hp
  generalize roundM (n * p10 p) d = q at *
  unfold decS
  refine Nat.le_trans (signText_len _ _) ?_
  have h1 : ∀ l, (numText ((q.natAbs : Int) / p10 p) 1 l).length ≤ 10 + l.length := fun l => numText1_len l b.2.2.2.2
  have h2 := Int.emod_lt_of_pos (q.natAbs : Int) (show 0 < p10 p by omega)
  have h3 := numTextK_len h2
  split
  · have := h1 []; simp at this; omega
  · have := h1 (46 :: numText ((q.natAbs : Int) % p10 p) p [])
    rw [List.length_cons] at this
    omega

/-- what a decimal is parsed as. -/
theorem dec_parse {n d : Int} {p : Nat} (h : chk n d = 0) (hp : p ≤ 9) :
    (∃ x y, parseT (decS (roundM (n * p10 p) d) p) = (x, y, 0) ∧ chk x y = 0 ∧ roundM (n * p10 p) d * y = x * p10 p) ∨
    (∃ e, parseT (decS (roundM (n * p10 p) d) p) = (0, 0, e) ∧ ¬ e = 0 ∧ 0 < p ∧ (e = 8 ∨ (-1000000000 ≤ n / d ∧ n / d ≤ -999999999) ∨ (999999999 ≤ ceilM n d ∧ ceilM n d ≤ 1000000000))) := by
  have f := fit_of_chk h
  have hd := den_pos h
  have near := round_near (n * p10 p) hd
  have b := dec_bd f hp
  obtain ⟨s1, s2⟩ := p10_bd p hp
  have R := rnd_facts h
  by_cases h0 : p = 0
  · subst h0
    have hc : chk (roundM (n * p10 0) d) 1 = 0 := by
      refine chk_of ⟨?_, ?_, by decide, by decide⟩ (by simp)
      · have := roundM_bd (n := n * p10 0) (d := d) (B := 1000000000) (by rw [p10_zero, Int.mul_one]; exact f.nlo) (by rw [p10_zero, Int.mul_one]; exact f.nhi) hd
        exact this.1
      · have := roundM_bd (n := n * p10 0) (d := d) (B := 1000000000) (by rw [p10_zero, Int.mul_one]; exact f.nlo) (by rw [p10_zero, Int.mul_one]; exact f.nhi) hd
        exact this.2
    exact .inl ⟨_, 1, parse_dec0 hc, hc, by rw [p10_zero]⟩
  · have hP := parse_dec (q := roundM (n * p10 p) d) (p := p) (by omega) hp
    by_cases hW : ((roundM (n * p10 p) d).natAbs : Int) / p10 p < 1000000000
    · rw [if_pos hW] at hP
      rw [hP]
      rcases low_is (n := roundM (n * p10 p) d) (d := p10 p) (by omega) with ⟨x, y, h1, h2, h3⟩ | ⟨h1, _⟩
      · exact .inl ⟨x, y, h1, h2, h3⟩
      · exact .inr ⟨8, h1, by decide, by omega, .inl rfl⟩
    · rw [if_neg hW] at hP
      refine .inr ⟨1, hP, by decide, by omega, .inr ?_⟩
      -- |q| is at least 10^9 times 10^p: a is near a bound
      have k1 : 1000000000 * p10 p ≤ ((roundM (n * p10 p) d).natAbs : Int) := by
        have := Int.mul_ediv_add_emod ((roundM (n * p10 p) d).natAbs : Int) (p10 p)
        have := Int.emod_nonneg ((roundM (n * p10 p) d).natAbs : Int) (show p10 p ≠ 0 by omega)
        have : p10 p * 1000000000 ≤ p10 p * (((roundM (n * p10 p) d).natAbs : Int) / p10 p) := Int.mul_le_mul_of_nonneg_left (by omega) (by omega)
        omega
      have k2 : 1000000000 * p10 p * d ≤ ((roundM (n * p10 p) d).natAbs : Int) * d := Int.mul_le_mul_of_nonneg_right k1 (by omega)
      have fl := R.fl
      have cf := R.cf
      have g0 := R.g0
      have g1 := R.g1
      -- 2 * |n| * 10^p is at least (2 * 10^9 * 10^p - 1) * d
      have hn : 2 * (1000000000 * p10 p * d) ≤ 2 * ((n * p10 p).natAbs : Int) + d := by
        have : (((roundM (n * p10 p) d) * d).natAbs : Int) = ((roundM (n * p10 p) d).natAbs : Int) * d := by
          rw [Int.natAbs_mul]
          have : (d.natAbs : Int) = d := by omega
          rw [Int.natCast_mul, this]
        omega
      have e5 : ((n * p10 p).natAbs : Int) = (n.natAbs : Int) * p10 p := by
        rw [Int.natAbs_mul]
        have : ((p10 p).natAbs : Int) = p10 p := by omega
        rw [Int.natCast_mul, this]
      rw [e5] at hn
      -- so |n| + d > 10^9 * d
      have k3 : 1000000000 * d < (n.natAbs : Int) + d := by
        refine Int.lt_of_mul_lt_mul_right (a := 2 * p10 p) ?_ (by omega)
        have j1 : d * 1 ≤ d * p10 p := Int.mul_le_mul_of_nonneg_left s1 (by omega)
        have j2 : 1000000000 * d * (2 * p10 p) = 2 * (1000000000 * p10 p * d) := by grind
        have j3 : ((n.natAbs : Int) + d) * (2 * p10 p) = 2 * ((n.natAbs : Int) * p10 p) + 2 * (d * p10 p) := by grind
        omega
      generalize ceilM n d = c at *
      generalize n / d = q at *
      by_cases hneg : n < 0
      · refine .inl ⟨fl.1, ?_⟩
        have : q * d < (-999999999) * d := by omega
        have := Int.lt_of_mul_lt_mul_right this (by omega)
        omega
      · refine .inr ?_
        have : 999999998 * d < q * d := by omega
        have hq := Int.lt_of_mul_lt_mul_right this (by omega)
        refine ⟨by omega, ?_⟩
        by_cases hc : c ≤ 1000000000
        · exact hc
        · exfalso
          have h1 : q = 1000000000 := by omega
          have h2 : d = 1 := by have := f.nhi; rw [h1] at g0; omega
          have h3 := R.is
          rw [h2] at h3
          have h4 : c = q := by simpa using h3
          omega

/-- the gap between a number and its decimal. -/
theorem gap_small {n d X Y q T G1 G2 H K1 K2 : Int} (hd : 0 < d) (hY : 0 < Y) (hT : 0 < T) (hG : 0 < G2) (hK : 0 < K2) (h1 : q * Y = X * T) (h2 : (X * d - n * Y) * G2 = G1 * (Y * d))
    (h3 : H = (G1.natAbs : Int)) (h4 : (H * 2) * K2 = K1 * (G2 * 1)) (near : 2 * ((q * d - n * T).natAbs : Int) ≤ d) : K1 * T ≤ 1 * K2 := by
  have e1 : (q * d - n * T) * G2 = G1 * (d * T) := by
    refine Int.eq_of_mul_eq_mul_right (a := Y) (by omega) ?_
    have a1 : (q * d - n * T) * G2 * Y = ((q * Y) * d - n * T * Y) * G2 := by grind
    have a2 : G1 * (d * T) * Y = G1 * (Y * d) * T := by grind
    rw [a1, a2, ← h2, h1]
    grind
  have e2 : ((q * d - n * T).natAbs : Int) * G2 = H * (d * T) := by
    have := congrArg Int.natAbs e1
    rw [Int.natAbs_mul, Int.natAbs_mul] at this
    have k1 : (G2.natAbs : Int) = G2 := by omega
    have p1 : 0 < d * T := Int.mul_pos hd hT
    have k2 : ((d * T).natAbs : Int) = d * T := by omega
    have := congrArg (fun x : Nat => (x : Int)) this
    simp only [Int.natCast_mul] at this
    rw [k1, k2, ← h3] at this
    exact this
  generalize ((q * d - n * T).natAbs : Int) = A at *
  have e3 : 2 * H * T ≤ G2 := by
    refine Int.le_of_mul_le_mul_right (a := d) ?_ hd
    have a1 : 2 * H * T * d = 2 * (A * G2) := by rw [e2]; grind
    have a2 : 2 * A * G2 ≤ d * G2 := Int.mul_le_mul_of_nonneg_right near (by omega)
    have a3 : 2 * A * G2 = 2 * (A * G2) := by grind
    have a4 : d * G2 = G2 * d := Int.mul_comm _ _
    omega
  refine Int.le_of_mul_le_mul_right (a := G2) ?_ hG
  have a1 : K1 * T * G2 = (2 * H * T) * K2 := by
    have : K1 * T * G2 = K1 * (G2 * 1) * T := by grind
    rw [this, ← h4]; grind
  have a2 : 2 * H * T * K2 ≤ G2 * K2 := Int.mul_le_mul_of_nonneg_right e3 (by omega)
  have a3 : 1 * K2 * G2 = G2 * K2 := by grind
  omega
end Go.Proofs.Ytgefidffhdanhaa
