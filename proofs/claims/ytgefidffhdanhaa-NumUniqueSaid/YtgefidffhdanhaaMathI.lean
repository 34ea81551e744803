/- The terms of a number, and what terms stand for: plain mathematics. -/
import Derived.Test.YtgefidffhdanhaaMathC
import Derived.Test.YtgefidffhdanhaaRefA
namespace Go.Proofs.Ytgefidffhdanhaa

/-- the terms of n divided by d. -/
def quo (n d : Int) : List Int := if 0 < d then n / d :: quo d (n % d) else []
termination_by d.toNat
decreasing_by
  have := Int.emod_lt_of_pos n ‹0 < d›
  have := Int.emod_nonneg n (show d ≠ 0 by omega)
  omega
theorem quo_pos {n d : Int} (h : 0 < d) : quo n d = n / d :: quo d (n % d) := by rw [quo, if_pos h]
theorem quo_zero {n d : Int} (h : ¬ 0 < d) : quo n d = [] := by rw [quo, if_neg h]

/-- how long a list of terms can be. -/
def fibs : Nat → Nat
  | 0 => 0
  | 1 => 1
  | 2 => 2
  | k + 3 => fibs (k + 2) + fibs (k + 1)
theorem quo_fib (k : Nat) : ∀ (n d : Int), k ≤ (quo n d).length → (fibs k : Int) ≤ d ∨ k = 0 := by
  induction k using Nat.strongRecOn with
  | _ k ih =>
    intro n d h
    match k, ih, h with
    | 0, _, _ => exact .inr rfl
    | 1, _, h =>
      refine .inl ?_
      by_cases hd : 0 < d
      · show (1 : Int) ≤ d; omega
      · rw [quo_zero hd] at h; simp at h
    | 2, ih, h =>
      refine .inl ?_
      by_cases hd : 0 < d
      · rw [quo_pos hd] at h
        have h1 : 1 ≤ (quo d (n % d)).length := by simp at h; omega
        have h2 := Int.emod_lt_of_pos n hd
        rcases ih 1 (by omega) d (n % d) h1 with h3 | h3
        · have h3' : (1 : Int) ≤ n % d := h3
          show (2 : Int) ≤ d; omega
        · cases h3
      · rw [quo_zero hd] at h; simp at h
    | k + 3, ih, h =>
      refine .inl ?_
      by_cases hd : 0 < d
      · rw [quo_pos hd] at h
        have h1 : k + 2 ≤ (quo d (n % d)).length := by simp at h; omega
        have h2 := Int.emod_lt_of_pos n hd
        by_cases he : 0 < n % d
        · rw [quo_pos he] at h1
          have h4 : k + 1 ≤ (quo (n % d) (d % (n % d))).length := by simp at h1; omega
          have e1 := Int.mul_ediv_add_emod d (n % d)
          have e2 : 1 ≤ d / (n % d) := by
            rw [Int.le_ediv_iff_mul_le he]; omega
          have e3 : (n % d) * 1 ≤ (n % d) * (d / (n % d)) := Int.mul_le_mul_of_nonneg_left e2 (by omega)
          rcases ih (k + 2) (by omega) d (n % d) (by rw [quo_pos he]; exact h1) with g1 | g1
          · rcases ih (k + 1) (by omega) (n % d) (d % (n % d)) h4 with g2 | g2
            · show ((fibs (k + 2) + fibs (k + 1) : Nat) : Int) ≤ d
              omega
            · omega
          · omega
        · rw [quo_zero he] at h1; simp at h1
      · rw [quo_zero hd] at h; simp at h
theorem quo_len {n d : Int} (h : d ≤ 1000000000) : (quo n d).length ≤ 50 := by
  by_cases hl : (quo n d).length ≤ 50
  · exact hl
  · exfalso
    have e : fibs 51 = 53316291173 - 20365011074 := by decide +kernel
    rcases quo_fib 51 n d (by omega) with g | g
    · rw [e] at g; omega
    · cases g

/-- what terms stand for. -/
def stand : List Int → Int × Int × Int
  | [] => (0, 0, 0)
  | t :: r => if -1000000000 ≤ t ∧ t ≤ 1000000000 then (if r = [] then (t, 1, 0) else if (stand r).2.2 = 0 then lowT (t * (stand r).1 + (stand r).2.1) (stand r).1 else (0, 0, 8)) else (0, 0, 8)
theorem stand_out {t : Int} {r : List Int} (h : ¬ (-1000000000 ≤ t ∧ t ≤ 1000000000)) : stand (t :: r) = (0, 0, 8) := by
  unfold stand; rw [if_neg h]
theorem stand_one {t : Int} (h : -1000000000 ≤ t ∧ t ≤ 1000000000) : stand [t] = (t, 1, 0) := by
  unfold stand; rw [if_pos h, if_pos rfl]
theorem stand_ok {t n d : Int} {r : List Int} (h : -1000000000 ≤ t ∧ t ≤ 1000000000) (hr : ¬ r = []) (hs : stand r = (n, d, 0)) : stand (t :: r) = lowT (t * n + d) n := by
  show (if -1000000000 ≤ t ∧ t ≤ 1000000000 then _ else _) = _
  rw [if_pos h, if_neg hr, hs]; rfl
theorem stand_no {t : Int} {r : List Int} (h : -1000000000 ≤ t ∧ t ≤ 1000000000) (hr : ¬ r = []) (hs : stand r = (0, 0, 8)) : stand (t :: r) = (0, 0, 8) := by
  show (if -1000000000 ≤ t ∧ t ≤ 1000000000 then _ else _) = _
  rw [if_pos h, if_neg hr, hs]; rfl

/-- a list whose terms, but for the first one, are above 0, and whose last one is not 1, if there are others. -/
def Tail1 (l : List Int) : Prop := ∀ t ∈ l, 1 ≤ t
theorem stand_is : ∀ (r : List Int), ¬ r = [] → Tail1 r → (∃ n d, stand r = (n, d, 0) ∧ chk n d = 0 ∧ d ≤ n) ∨ stand r = (0, 0, 8)
  | [], h, _ => absurd rfl h
  | [t], _, h => by
    by_cases ht : -1000000000 ≤ t ∧ t ≤ 1000000000
    · refine .inl ⟨t, 1, stand_one ht, chk_of ⟨ht.1, ht.2, by decide, by decide⟩ (by simp), h t (by simp)⟩
    · exact .inr (stand_out ht)
  | t :: s :: r, _, h => by
    have h1 := h t (by simp)
    by_cases ht : -1000000000 ≤ t ∧ t ≤ 1000000000
    · rcases stand_is (s :: r) (by simp) (fun x hx => h x (by simp at hx ⊢; exact .inr hx)) with ⟨n, d, hs, hc, hl⟩ | hs
      · have pd := den_pos hc
        rw [stand_ok ht (by simp) hs]
        rcases low_is (n := t * n + d) (d := n) (by omega) with ⟨x, y, k1, k2, k3⟩ | ⟨k1, _⟩
        · refine .inl ⟨x, y, k1, k2, ?_⟩
          have py := den_pos k2
          have e : 1 * n ≤ t * n := Int.mul_le_mul_of_nonneg_right h1 (by omega)
          have e2 : n * y ≤ (t * n + d) * y := Int.mul_le_mul_of_nonneg_right (by omega) (by omega)
          rw [k3, Int.mul_comm n y] at e2
          exact Int.le_of_mul_le_mul_right e2 (by omega)
        · exact .inr k1
      · exact .inr (stand_no ht (by simp) hs)
    · exact .inr (stand_out ht)

/-- the terms of a number stand for it. -/
theorem stand_quo (k : Nat) : ∀ (n d : Int), d.toNat ≤ k → chk n d = 0 → stand (quo n d) = (n, d, 0) := by
  induction k with
  | zero => intro n d hk hc; have := den_pos hc; omega
  | succ k ih =>
    intro n d hk hc
    have pd := den_pos hc
    have f := fit_of_chk hc
    have h1 := f.nlo; have h2 := f.nhi; have h3 := f.dhi
    have e1 := Int.mul_ediv_add_emod n d
    have e2 := Int.emod_nonneg n (show d ≠ 0 by omega)
    have e3 := Int.emod_lt_of_pos n pd
    have q := ediv_bd n d 1000000000 h1 h2 pd
    rw [quo_pos pd]
    by_cases he : n % d = 0
    · have hd1 : d = 1 := by
        have dv : d ∣ n := Int.dvd_of_emod_eq_zero he
        have g := cop_of_chk hc
        have : (Int.gcd n d : Int) = d := Int.gcd_eq_right (by omega) dv
        omega
      subst hd1
      rw [he, quo_zero (by decide), stand_one q, Int.ediv_one]
    · have hce : chk d (n % d) = 0 := by
        refine chk_of ⟨by omega, h3, by omega, by omega⟩ ?_
        rw [gcd_emod, cop_of_chk hc]
      have ihh := ih d (n % d) (by omega) hce
      rw [stand_ok q (by rw [quo_pos (by omega)]; simp) ihh]
      rw [show n / d * d + n % d = n by rw [Int.mul_comm]; exact e1]
      exact low_eq (by omega) hc rfl

/-- the last one of a list. -/
theorem stand_big : ∀ (r : List Int), ¬ r = [] → Tail1 r → r.getLastD 0 ≠ 1 → ∀ n d, stand r = (n, d, 0) → d < n
  | [], h, _, _ => absurd rfl h
  | [t], _, h, hl => by
    intro n d hs
    have h1 := h t (by simp)
    have h2 : t ≠ 1 := hl
    by_cases ht : -1000000000 ≤ t ∧ t ≤ 1000000000
    · rw [stand_one ht] at hs
      simp only [Prod.mk.injEq] at hs
      omega
    · rw [stand_out ht] at hs; simp at hs
  | t :: s :: r, _, h, hl => by
    intro n d hs
    have h1 := h t (by simp)
    by_cases ht : -1000000000 ≤ t ∧ t ≤ 1000000000
    · rcases stand_is (s :: r) (by simp) (fun x hx => h x (by simp at hx ⊢; exact .inr hx)) with ⟨u, v, hu, hc, hle⟩ | hu
      · have pv := den_pos hc
        rw [stand_ok ht (by simp) hu] at hs
        rcases low_is (n := t * u + v) (d := u) (by omega) with ⟨x, y, k1, k2, k3⟩ | ⟨k1, _⟩
        · rw [k1] at hs
          simp only [Prod.mk.injEq] at hs
          obtain ⟨rfl, rfl, -⟩ := hs
          have py := den_pos k2
          have e : 1 * u ≤ t * u := Int.mul_le_mul_of_nonneg_right h1 (by omega)
          have e2 : u * y < (t * u + v) * y := Int.mul_lt_mul_of_pos_right (by omega) py
          rw [k3, Int.mul_comm u y] at e2
          exact Int.lt_of_mul_lt_mul_right e2 (by omega)
        · rw [k1] at hs; simp at hs
      · rw [stand_no ht (by simp) hu] at hs; simp at hs
    · rw [stand_out ht] at hs; simp at hs

/-- a list that stands for a number is the terms of it. -/
theorem quo_stand : ∀ (l : List Int), ¬ l = [] → (∀ t ∈ l.drop 1, 1 ≤ t) → (1 < l.length → l.getLastD 0 ≠ 1) → ∀ n d, stand l = (n, d, 0) → quo n d = l ∧ chk n d = 0
  | [], h, _, _ => absurd rfl h
  | [t], _, _, _ => by
    intro n d hs
    by_cases ht : -1000000000 ≤ t ∧ t ≤ 1000000000
    · rw [stand_one ht] at hs
      simp only [Prod.mk.injEq] at hs
      obtain ⟨rfl, rfl, -⟩ := hs
      exact ⟨by rw [quo_pos (by decide), Int.ediv_one, Int.emod_one, quo_zero (by decide)], chk_of ⟨ht.1, ht.2, by decide, by decide⟩ (by simp)⟩
    · rw [stand_out ht] at hs; simp at hs
  | t :: s :: r, _, h, hl => by
    intro n d hs
    have hT : Tail1 (s :: r) := fun x hx => h x (by simpa using hx)
    have hL : (s :: r).getLastD 0 ≠ 1 := by have := hl (by simp); simpa using this
    by_cases ht : -1000000000 ≤ t ∧ t ≤ 1000000000
    · rcases stand_is (s :: r) (by simp) hT with ⟨u, v, hu, hc, hle⟩ | hu
      · have hbig := stand_big (s :: r) (by simp) hT hL u v hu
        have ih := (quo_stand (s :: r) (by simp) (fun x hx => hT x (List.mem_of_mem_drop hx)) (fun _ => hL) u v hu).1
        have pv := den_pos hc
        rw [stand_ok ht (by simp) hu] at hs
        have hmod : (t * u + v) % u = v := by
          rw [Int.add_comm, Int.add_mul_emod_self_right, Int.emod_eq_of_lt (by omega) hbig]
        have hdiv : (t * u + v) / u = t := by
          have e1 := Int.mul_ediv_add_emod (t * u + v) u
          rw [hmod] at e1
          refine Int.eq_of_mul_eq_mul_right (a := u) (by omega) ?_
          rw [Int.mul_comm] at e1; omega
        have hg : Int.gcd (t * u + v) u = 1 := by
          rw [← gcd_emod, hmod]; exact cop_of_chk hc
        rcases low_is (n := t * u + v) (d := u) (by omega) with ⟨x, y, k1, k2, k3⟩ | ⟨k1, _⟩
        · rw [k1] at hs
          simp only [Prod.mk.injEq] at hs
          obtain ⟨rfl, rfl, -⟩ := hs
          obtain ⟨e1, e2⟩ := form_one (by omega) (den_pos k2) hg (cop_of_chk k2) k3
          subst e1 e2
          exact ⟨by rw [quo_pos (by omega), hdiv, hmod, ih], k2⟩
        · rw [k1] at hs; simp at hs
      · rw [stand_no ht (by simp) hu] at hs; simp at hs
    · rw [stand_out ht] at hs; simp at hs
end Go.Proofs.Ytgefidffhdanhaa
