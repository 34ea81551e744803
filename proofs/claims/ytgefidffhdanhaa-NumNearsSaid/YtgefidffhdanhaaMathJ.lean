/- The nearest number with no greater a denominator: plain mathematics. -/
import Derived.Test.YtgefidffhdanhaaMathD
namespace Go.Proofs.Ytgefidffhdanhaa

/-- how far x is from a, times both denominators. -/
def dist (an ad : Int) (x : Int × Int) : Int := ((x.1 * ad - an * x.2).natAbs : Int)
/-- whether x is nearer to a than y, or as near and simpler. -/
def betterM (an ad : Int) (x y : Int × Int) : Bool :=
  decide (dist an ad x * y.2 < dist an ad y * x.2) || (decide (dist an ad x * y.2 = dist an ad y * x.2) && simplerM x.1 x.2 y.1 y.2)

theorem better_iff {an ad : Int} {x y : Int × Int} : betterM an ad x y = true ↔ dist an ad x * y.2 < dist an ad y * x.2 ∨ (dist an ad x * y.2 = dist an ad y * x.2 ∧ simplerM x.1 x.2 y.1 y.2 = true) := by
  unfold betterM; simp
theorem simplerM_iff {an ad bn bd : Int} : simplerM an ad bn bd = true ↔ ad < bd ∨ (ad = bd ∧ (an.natAbs < bn.natAbs ∨ an.natAbs = bn.natAbs ∧ bn < an)) := by
  unfold simplerM
  by_cases h : ad = bd
  · rw [if_pos h]; simp [h]
  · rw [if_neg h]; simp [h]
theorem simpler_trans {an ad bn bd cn cd : Int} (h : simplerM an ad bn bd = true) (k : simplerM bn bd cn cd = true) : simplerM an ad cn cd = true := by
  rw [simplerM_iff] at *
  omega

theorem ratio_lt {p q r x y z : Int} (hx : 0 < x) (hy : 0 < y) (hz : 0 < z) (h : p * y < q * x) (k : q * z ≤ r * y) : p * z < r * x := by
  refine Int.lt_of_mul_lt_mul_right (a := y) ?_ (by omega)
  have a1 : p * z * y = p * y * z := by grind
  have a2 : r * x * y = r * y * x := by grind
  have a3 : p * y * z < q * x * z := Int.mul_lt_mul_of_pos_right h hz
  have a4 : q * z * x ≤ r * y * x := Int.mul_le_mul_of_nonneg_right k (by omega)
  have a5 : q * x * z = q * z * x := by grind
  omega
theorem ratio_lt' {p q r x y z : Int} (hx : 0 < x) (hy : 0 < y) (hz : 0 < z) (h : p * y ≤ q * x) (k : q * z < r * y) : p * z < r * x := by
  refine Int.lt_of_mul_lt_mul_right (a := y) ?_ (by omega)
  have a1 : p * z * y = p * y * z := by grind
  have a2 : r * x * y = r * y * x := by grind
  have a3 : p * y * z ≤ q * x * z := Int.mul_le_mul_of_nonneg_right h (by omega)
  have a4 : q * z * x < r * y * x := Int.mul_lt_mul_of_pos_right k hx
  have a5 : q * x * z = q * z * x := by grind
  omega
theorem ratio_eq {p q r x y z : Int} (hy : 0 < y) (h : p * y = q * x) (k : q * z = r * y) : p * z = r * x := by
  refine Int.eq_of_mul_eq_mul_right (a := y) (by omega) ?_
  have a1 : p * z * y = p * y * z := by grind
  have a2 : r * x * y = r * y * x := by grind
  have a5 : q * x * z = q * z * x := by grind
  rw [a1, h, a5, k, a2]

theorem better_trans {an ad : Int} {x y z : Int × Int} (hx : 0 < x.2) (hy : 0 < y.2) (hz : 0 < z.2) (h : betterM an ad x y = true) (k : betterM an ad y z = true) : betterM an ad x z = true := by
  rw [better_iff] at *
  rcases h with h | ⟨h, hs⟩ <;> rcases k with k | ⟨k, ks⟩
  · exact .inl (ratio_lt hx hy hz h (by omega))
  · exact .inl (ratio_lt hx hy hz h (by omega))
  · exact .inl (ratio_lt' hx hy hz (by omega) k)
  · exact .inr ⟨ratio_eq hy h k, simpler_trans hs ks⟩

theorem better_over {an ad : Int} {x y z : Int × Int} (hx : 0 < x.2) (hy : 0 < y.2) (hz : 0 < z.2) (h : betterM an ad x y = true) (k : ¬ betterM an ad z y = true) : betterM an ad x z = true := by
  rw [better_iff] at *
  by_cases e : dist an ad z * y.2 = dist an ad y * z.2
  · have ks : ¬ simplerM z.1 z.2 y.1 y.2 = true := fun s => k (.inr ⟨e, s⟩)
    rcases h with h | ⟨h, hs⟩
    · exact .inl (ratio_lt hx hy hz h (by omega))
    · refine .inr ⟨ratio_eq hy h e.symm, ?_⟩
      rw [simplerM_iff] at *
      omega
  · have kl : dist an ad y * z.2 < dist an ad z * y.2 := by
      have : ¬ dist an ad z * y.2 < dist an ad y * z.2 := fun s => k (.inl s)
      omega
    rcases h with h | ⟨h, hs⟩
    · exact .inl (ratio_lt hx hy hz h (by omega))
    · exact .inl (ratio_lt' hx hy hz (by omega) kl)

/-- the first of the candidates that no other one is better than. -/
def pick (an ad : Int) : List (Int × Int) → Option (Int × Int) → Option (Int × Int)
  | [], k => k
  | c :: r, none => pick an ad r (some c)
  | c :: r, some k => pick an ad r (some (if betterM an ad c k = true then c else k))
theorem pick_snoc (an ad : Int) (l : List (Int × Int)) (c : Int × Int) : ∀ k, pick an ad (l ++ [c]) k = match pick an ad l k with | none => some c | some q => some (if betterM an ad c q = true then c else q) := by
  induction l with
  | nil => intro k; cases k <;> rfl
  | cons d r ih => intro k; cases k with
    | none => exact ih _
    | some k => exact ih _
theorem pick_some (an ad : Int) (l : List (Int × Int)) : ∀ k, ∃ q, pick an ad l (some k) = some q ∧ (q = k ∨ q ∈ l) := by
  induction l with
  | nil => intro k; exact ⟨k, rfl, .inl rfl⟩
  | cons c r ih =>
    intro k
    obtain ⟨q, h1, h2⟩ := ih (if betterM an ad c k = true then c else k)
    refine ⟨q, h1, ?_⟩
    rcases h2 with h2 | h2
    · by_cases hb : betterM an ad c k = true
      · rw [if_pos hb] at h2; exact .inr (by simp [h2])
      · rw [if_neg hb] at h2; exact .inl h2
    · exact .inr (by simp [h2])
theorem pick_best (an ad : Int) : ∀ (l : List (Int × Int)) (k q : Int × Int), (∀ c ∈ l, 0 < c.2) → 0 < k.2 → pick an ad l (some k) = some q → 0 < q.2 ∧ ¬ betterM an ad k q = true ∧ ∀ c ∈ l, ¬ betterM an ad c q = true
  | [], k, q, _, hk, h => by
    obtain rfl : k = q := by simpa [pick] using h
    refine ⟨hk, fun h => ?_, fun c hc => by simp at hc⟩
    rw [better_iff, simplerM_iff] at h
    omega
  | c :: r, k, q, hl, hk, h => by
    have hc := hl c (by simp)
    have hr : ∀ d ∈ r, 0 < d.2 := fun d hd => hl d (by simp [hd])
    by_cases hb : betterM an ad c k = true
    · have h' : pick an ad r (some c) = some q := by have := h; unfold pick at this; rw [if_pos hb] at this; exact this
      obtain ⟨q0, h1, h2⟩ := pick_best an ad r c q hr hc h'
      refine ⟨q0, fun hkq => h1 (better_trans hc hk q0 hb hkq), fun d hd => ?_⟩
      rcases List.mem_cons.1 hd with rfl | hd
      · exact h1
      · exact h2 d hd
    · have h' : pick an ad r (some k) = some q := by have := h; unfold pick at this; rw [if_neg hb] at this; exact this
      obtain ⟨q0, h1, h2⟩ := pick_best an ad r k q hr hk h'
      refine ⟨q0, h1, fun d hd => ?_⟩
      rcases List.mem_cons.1 hd with rfl | hd
      · intro hdq
        exact hb (better_over hc q0 hk hdq h1)
      · exact h2 d hd

/-- the numbers on both sides of a, denominator by denominator. -/
def cands (an ad : Int) : Nat → List (Int × Int)
  | 0 => []
  | m + 1 => cands an ad m ++ [((an * ((m : Int) + 1)) / ad, (m : Int) + 1), ((an * ((m : Int) + 1)) / ad + 1, (m : Int) + 1)]
theorem cands_len (an ad : Int) : ∀ m, (cands an ad m).length = 2 * m
  | 0 => rfl
  | m + 1 => by unfold cands; rw [List.length_append, cands_len an ad m]; simp; omega
/-- a number beside a. -/
structure Cand (an ad : Int) (m : Nat) (x : Int × Int) : Prop where
  lo : 1 ≤ x.2
  hi : x.2 ≤ m
  near : -ad ≤ x.1 * ad - an * x.2 ∧ x.1 * ad - an * x.2 ≤ ad
theorem cand_two {an ad : Int} (ha : 0 < ad) {m : Nat} {d : Int} (h1 : 1 ≤ d) (h2 : d ≤ m) : Cand an ad m ((an * d) / ad, d) ∧ Cand an ad m ((an * d) / ad + 1, d) := by
  have e1 := Int.mul_ediv_add_emod (an * d) ad
  have e2 := Int.emod_nonneg (an * d) (show ad ≠ 0 by omega)
  have e3 := Int.emod_lt_of_pos (an * d) ha
  have e4 : ad * (an * d / ad) = an * d / ad * ad := Int.mul_comm _ _
  refine ⟨⟨h1, h2, ?_⟩, ⟨h1, h2, ?_⟩⟩
  · show -ad ≤ an * d / ad * ad - an * d ∧ an * d / ad * ad - an * d ≤ ad
    omega
  · show -ad ≤ (an * d / ad + 1) * ad - an * d ∧ (an * d / ad + 1) * ad - an * d ≤ ad
    rw [Int.add_mul, Int.one_mul]; omega
theorem cands_are {an ad : Int} (ha : 0 < ad) (m : Nat) : ∀ k, k ≤ m → ∀ c ∈ cands an ad k, Cand an ad m c
  | 0, _, c, hc => by simp [cands] at hc
  | k + 1, hk, c, hc => by
    unfold cands at hc
    rcases List.mem_append.1 hc with hc | hc
    · exact cands_are ha m k (by omega) c hc
    · have := cand_two (an := an) ha (m := m) (d := (k : Int) + 1) (by omega) (by omega)
      simp only [List.mem_cons, List.not_mem_nil, or_false] at hc
      rcases hc with rfl | rfl
      · exact this.1
      · exact this.2
theorem cands_have {an ad : Int} {m : Nat} {d : Nat} (h1 : 1 ≤ d) (h2 : d ≤ m) : ((an * (d : Int)) / ad, (d : Int)) ∈ cands an ad m ∧ ((an * (d : Int)) / ad + 1, (d : Int)) ∈ cands an ad m := by
  induction m with
  | zero => omega
  | succ m ih =>
    unfold cands
    by_cases h : d ≤ m
    · exact ⟨List.mem_append.2 (.inl (ih h).1), List.mem_append.2 (.inl (ih h).2)⟩
    · have e : (d : Int) = (m : Int) + 1 := by omega
      rw [e]
      exact ⟨List.mem_append.2 (.inr (by simp)), List.mem_append.2 (.inr (by simp))⟩

/-- nothing with such a denominator is better than the best candidate. -/
theorem best_all {an ad : Int} (ha : 0 < ad) {m : Nat} {q : Int × Int} (hq : 0 < q.2) (hb : ∀ c ∈ cands an ad m, ¬ betterM an ad c q = true) {c : Int × Int} (h1 : 1 ≤ c.2) (h2 : c.2 ≤ m) : ¬ betterM an ad c q = true := by
  intro hcq
  obtain ⟨x, y⟩ := c
  simp only at h1 h2
  obtain ⟨d, rfl⟩ := Int.eq_ofNat_of_zero_le (show 0 ≤ y by omega)
  obtain ⟨c1, c2⟩ := cands_have (an := an) (ad := ad) (m := m) (d := d) (by omega) (by omega)
  have e1 := Int.mul_ediv_add_emod (an * d) ad
  have e2 := Int.emod_nonneg (an * d) (show ad ≠ 0 by omega)
  have e3 := Int.emod_lt_of_pos (an * d) ha
  have e4 : ad * (an * d / ad) = an * d / ad * ad := Int.mul_comm _ _
  generalize hf : an * (d : Int) / ad = f at *
  -- x is one of the two, or farther than one of them
  have key : ∀ z : Int, (z, (d : Int)) ∈ cands an ad m → (x = z ∨ dist an ad (z, (d : Int)) < dist an ad (x, (d : Int))) → False := by
    intro z hz hx
    rcases hx with rfl | hx
    · exact hb _ hz hcq
    · refine hb _ hz ?_
      refine better_trans (y := (x, (d : Int))) (by show (0 : Int) < d; omega) (by show (0 : Int) < d; omega) hq ?_ hcq
      rw [better_iff]
      exact .inl (Int.mul_lt_mul_of_pos_right hx (by show (0 : Int) < d; omega))
  rcases Int.lt_trichotomy x f with h | h | h
  · refine key f c1 (.inr ?_)
    have : (x + 1) * ad ≤ f * ad := Int.mul_le_mul_of_nonneg_right (by omega) (by omega)
    rw [Int.add_mul, Int.one_mul] at this
    show ((f * ad - an * d).natAbs : Int) < ((x * ad - an * d).natAbs : Int)
    omega
  · exact key f c1 (.inl h)
  · by_cases h' : x = f + 1
    · exact key (f + 1) c2 (.inl h')
    · refine key (f + 1) c2 (.inr ?_)
      have : (f + 1 + 1) * ad ≤ x * ad := Int.mul_le_mul_of_nonneg_right (by omega) (by omega)
      rw [Int.add_mul, Int.one_mul] at this
      have e5 : (f + 1) * ad = f * ad + ad := by rw [Int.add_mul, Int.one_mul]
      show (((f + 1) * ad - an * d).natAbs : Int) < ((x * ad - an * d).natAbs : Int)
      omega

/-- the best candidate is in lowest terms. -/
theorem best_low {an ad : Int} {m : Nat} {q : Int × Int} (hq : 0 < q.2) (hqm : q.2 ≤ m) (hb : ∀ c : Int × Int, 1 ≤ c.2 → c.2 ≤ m → ¬ betterM an ad c q = true) : Int.gcd q.1 q.2 = 1 := by
  obtain ⟨x, y⟩ := q
  simp only at *
  obtain ⟨u, hu⟩ := Int.gcd_dvd_left x y
  obtain ⟨v, hv⟩ := Int.gcd_dvd_right x y
  have hg : 0 < Int.gcd x y := Int.gcd_pos_of_ne_zero_right x (show y ≠ 0 by omega)
  generalize Int.gcd x y = g at *
  by_cases h1 : g = 1
  · exact h1
  · exfalso
    have hg2 : (2 : Int) ≤ (g : Int) := by omega
    have hv0 : 0 < v := Int.pos_of_mul_pos_right (show 0 < (g : Int) * v by omega) (by omega)
    have hvy : v < y := by
      have : 2 * v ≤ (g : Int) * v := Int.mul_le_mul_of_nonneg_right hg2 (by omega)
      omega
    refine hb (u, v) (by show 1 ≤ v; omega) (by show v ≤ m; omega) ?_
    rw [better_iff]
    refine .inr ⟨?_, by rw [simplerM_iff]; exact .inl hvy⟩
    show ((u * ad - an * v).natAbs : Int) * y = ((x * ad - an * y).natAbs : Int) * v
    have e : x * ad - an * y = (g : Int) * (u * ad - an * v) := by rw [hu, hv]; grind
    rw [e, Int.natAbs_mul, Int.natCast_mul]
    have e2 : (((g : Int).natAbs : Nat) : Int) = (g : Int) := by omega
    rw [e2, hv]
    grind

/-- the best candidate. -/
def bestQ (an ad : Int) (m : Nat) : Int × Int := (pick an ad (cands an ad m) none).getD (0, 0)
structure Best (an ad : Int) (m : Nat) (q : Int × Int) : Prop where
  cand : Cand an ad m q
  best : ∀ c : Int × Int, 1 ≤ c.2 → c.2 ≤ m → ¬ betterM an ad c q = true
  cop : Int.gcd q.1 q.2 = 1
theorem best_is {an ad : Int} (ha : 0 < ad) {m : Nat} (hm : 1 ≤ m) : pick an ad (cands an ad m) none = some (bestQ an ad m) ∧ Best an ad m (bestQ an ad m) := by
  have hc := cands_are (an := an) ha m m (Nat.le_refl _)
  have hbl := fun (q : Int × Int) (hq : 0 < q.2) h (c : Int × Int) => @best_all an ad ha m q hq h c
  have hl := cands_len an ad m
  unfold bestQ
  cases hL : cands an ad m with
  | nil => rw [hL] at hl; simp at hl; omega
  | cons c r =>
    rw [hL] at hc hbl
    obtain ⟨q, h1, h2⟩ := pick_some an ad r c
    have hp : ∀ d ∈ r, 0 < d.2 := fun d hd => by have := (hc d (by simp [hd])).lo; omega
    have hcc := hc c (by simp)
    have hcq : Cand an ad m q := by
      rcases h2 with rfl | h2
      · exact hcc
      · exact hc q (by simp [h2])
    obtain ⟨k1, k2, k3⟩ := pick_best an ad r c q hp (by have := hcc.lo; omega) h1
    have e : pick an ad (c :: r) none = some q := h1
    rw [e]
    have hall : ∀ d : Int × Int, 1 ≤ d.2 → d.2 ≤ m → ¬ betterM an ad d q = true := fun d d1 d2 => hbl q k1 (fun x hx => by
      rcases List.mem_cons.1 hx with rfl | hx
      · exact k2
      · exact k3 x hx) d d1 d2
    exact ⟨rfl, hcq, hall, best_low k1 hcq.hi hall⟩
theorem best_own {an ad : Int} (ha : chk an ad = 0) {m : Nat} {q : Int × Int} (h : Best an ad m q) (hm : ad ≤ m) : q = (an, ad) := by
  have pd := den_pos ha
  have h1 := h.best (an, ad) (by show 1 ≤ ad; omega) hm
  have hq := h.cand.lo
  rw [better_iff] at h1
  have d0 : dist an ad (an, ad) = 0 := by unfold dist; simp
  rw [d0] at h1
  have hd : dist an ad q = 0 := by
    have n0 : 0 ≤ dist an ad q := by unfold dist; omega
    by_cases hz : dist an ad q = 0
    · exact hz
    · exfalso
      refine h1 (.inl ?_)
      have : 0 < dist an ad q * ad := Int.mul_pos (by omega) pd
      show 0 * q.2 < dist an ad q * ad
      omega
  have hx : q.1 * ad = an * q.2 := by unfold dist at hd; omega
  obtain ⟨e1, e2⟩ := form_one (by omega) pd h.cop (cop_of_chk ha) hx
  exact Prod.ext e1 e2
theorem best_fit {an ad : Int} (ha : chk an ad = 0) {m : Nat} {q : Int × Int} (h : Best an ad m q) (hm1 : m ≤ 1000) : chk q.1 q.2 = 0 := by
  have pd := den_pos ha
  have f := fit_of_chk ha
  by_cases hm : ad ≤ m
  · rw [best_own ha h hm]; exact ha
  · obtain ⟨c1, c2, c3⟩ := h.cand
    have f1 := f.nlo; have f2 := f.nhi; have f3 := f.dhi
    refine chk_of ⟨?_, ?_, c1, by omega⟩ h.cop
    · refine Int.le_of_mul_le_mul_right (a := ad) ?_ pd
      have a1 : -1000000000 * q.2 ≤ an * q.2 := Int.mul_le_mul_of_nonneg_right f1 (by omega)
      omega
    · refine Int.le_of_mul_le_mul_right (a := ad) ?_ pd
      have a1 : an * q.2 ≤ 1000000000 * q.2 := Int.mul_le_mul_of_nonneg_right f2 (by omega)
      omega
end Go.Proofs.Ytgefidffhdanhaa
