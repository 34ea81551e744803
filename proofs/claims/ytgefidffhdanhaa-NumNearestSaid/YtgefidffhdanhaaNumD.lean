import Derived.Test.YtgefidffhdanhaaNumC
namespace Go.Proofs.Ytgefidffhdanhaa
open Go.RowKit Go.BigFrame

set_option maxHeartbeats 400000 in
theorem table_any (w : World) : Calls Try.prog 123 #[] w fun e w' => e = .returned (.agg #[.func (.func 124) #[] #[], .func (.func 133) #[] #[], .func (.func 125) #[] #[], .func (.func 134) #[] #[]]) ∧ Below w.heap.size w w' := by
  go_enter Try.func123, Try.ntmps123
  go_wp2
  refine bodyPost_ret (v := .agg #[.func (.func 124) #[] #[], .func (.func 133) #[] #[], .func (.func 125) #[] #[], .func (.func 134) #[] #[]]) (by simp (maxDischargeDepth := 8) [results, Try.results123, go_sem, *]) rfl ?_
  exact ⟨rfl, by ((repeat' (first | exact Below.refl _ _ | assumption | refine Below.setCell ?_ ?_ _ | refine bdrewN ?_ _ | refine Below.drew ?_ | refine Below.alloc ?_ ?_ _ | refine bbehind ?_ (by assumption) ?_)); all_goals first | (simp; done) | (simp; omega) | omega)⟩


theorem mul_bd {a b A B : Int} (h1 : -A ≤ a) (h2 : a ≤ A) (h3 : -B ≤ b) (h4 : b ≤ B) : -(A * B) ≤ a * b ∧ a * b ≤ A * B := by
  have h5 : a.natAbs ≤ A.natAbs := by omega
  have h6 : b.natAbs ≤ B.natAbs := by omega
  have h7 : a.natAbs * b.natAbs ≤ A.natAbs * B.natAbs := Nat.mul_le_mul h5 h6
  have h8 : (a * b).natAbs = a.natAbs * b.natAbs := Int.natAbs_mul a b
  have h9 : (A * B).natAbs = A.natAbs * B.natAbs := Int.natAbs_mul A B
  have h10 : 0 ≤ A * B := Int.mul_nonneg (by omega) (by omega)
  omega
theorem mul_bd9 {a b : Int} (h1 : -1000000000 ≤ a) (h2 : a ≤ 1000000000) (h3 : -1000000000 ≤ b) (h4 : b ≤ 1000000000) : -1000000000000000000 ≤ a * b ∧ a * b ≤ 1000000000000000000 := mul_bd h1 h2 h3 h4
theorem mul_ne {a b : Int} (h1 : ¬ a = 0) (h2 : ¬ b = 0) : ¬ a * b = 0 := fun h => (Int.mul_eq_zero.1 h).elim h1 h2

/-- a valid number is within the bounds. -/
structure Fit (n d : Int) : Prop where
  nlo : -1000000000 ≤ n
  nhi : n ≤ 1000000000
  dlo : 1 ≤ d
  dhi : d ≤ 1000000000


set_option maxHeartbeats 400000 in
theorem plus_any (an ad bn bd : Int) (w : World) (fa : Fit an ad) (fb : Fit bn bd) :
    Calls Try.prog 124 #[.agg #[.int .i64 an, .int .i64 ad], .agg #[.int .i64 bn, .int .i64 bd]] w fun e w' => e = lowEnd (an * bd + bn * ad) (ad * bd) ∧ Below w.heap.size w w' := by
  obtain ⟨a1, a2, a3, a4⟩ := fa
  obtain ⟨b1, b2, b3, b4⟩ := fb
  have m1 := mul_bd9 (a := an) (b := bd) (by omega) (by omega) (by omega) (by omega)
  have m2 := mul_bd9 (a := bn) (b := ad) (by omega) (by omega) (by omega) (by omega)
  have m3 := mul_bd9 (a := ad) (b := bd) (by omega) (by omega) (by omega) (by omega)
  have hd : ¬ ad * bd = 0 := mul_ne (by omega) (by omega)
  by_cases hok : lowOk (an * bd + bn * ad) (ad * bd) = true
  · go_enter Try.func124, Try.ntmps124
    go_wp2_with (go_at_call 72; refine (lowest_ok _ _ _ (by omega) (by omega) (by omega) (by omega) hd hok).mono ?_; rintro e w1 ⟨rfl, hb1⟩; obtain ⟨hc1, hf1⟩ := bcell hb1; have hs1 := hb1.size; (try simp at hs1); (try have hz0 : w.heap.size < w1.heap.size := by omega); (try have hz1 : w.heap.size + 1 < w1.heap.size := by omega); (try have hz2 : w.heap.size + 1 + 1 < w1.heap.size := by omega); (try have hz3 : w.heap.size + 1 + 1 + 1 < w1.heap.size := by omega); (try have hz4 : w.heap.size + 1 + 1 + 1 + 1 < w1.heap.size := by omega); (try have hz5 : w.heap.size + 1 + 1 + 1 + 1 + 1 < w1.heap.size := by omega))
    refine bodyPost_ret (v := .agg #[.int .i64 (lowN (an * bd + bn * ad) (ad * bd)), .int .i64 (lowD (an * bd + bn * ad) (ad * bd))]) (by simp (maxDischargeDepth := 8) [results, Try.results124, go_sem, *]) rfl ?_
    exact ⟨(lowEnd_yes hok).symm, by ((repeat' (first | exact Below.refl _ _ | assumption | refine Below.setCell ?_ ?_ _ | refine bdrewN ?_ _ | refine Below.drew ?_ | refine Below.alloc ?_ ?_ _ | refine bbehind ?_ (by assumption) ?_)); all_goals first | (simp; done) | (simp; omega) | omega)⟩
  · go_enter Try.func124, Try.ntmps124
    go_wp2_with (go_at_call 72; refine (lowest_beyond _ _ _ (by omega) (by omega) (by omega) (by omega) hd hok).mono ?_; rintro e w1 ⟨rfl, hb1⟩; obtain ⟨hc1, hf1⟩ := bcell hb1; have hs1 := hb1.size; (try simp at hs1); (try have hz0 : w.heap.size < w1.heap.size := by omega); (try have hz1 : w.heap.size + 1 < w1.heap.size := by omega); (try have hz2 : w.heap.size + 1 + 1 < w1.heap.size := by omega); (try have hz3 : w.heap.size + 1 + 1 + 1 < w1.heap.size := by omega); (try have hz4 : w.heap.size + 1 + 1 + 1 + 1 < w1.heap.size := by omega); (try have hz5 : w.heap.size + 1 + 1 + 1 + 1 + 1 < w1.heap.size := by omega))
    exact ⟨rfl, (lowEnd_not hok).symm, by ((repeat' (first | exact Below.refl _ _ | assumption | refine Below.setCell ?_ ?_ _ | refine bdrewN ?_ _ | refine Below.drew ?_ | refine Below.alloc ?_ ?_ _ | refine bbehind ?_ (by assumption) ?_)); all_goals first | (simp; done) | (simp; omega) | omega)⟩

set_option maxHeartbeats 400000 in
theorem minus_any (an ad bn bd : Int) (w : World) (fa : Fit an ad) (fb : Fit bn bd) :
    Calls Try.prog 133 #[.agg #[.int .i64 an, .int .i64 ad], .agg #[.int .i64 bn, .int .i64 bd]] w fun e w' => e = lowEnd (an * bd - bn * ad) (ad * bd) ∧ Below w.heap.size w w' := by
  obtain ⟨a1, a2, a3, a4⟩ := fa
  obtain ⟨b1, b2, b3, b4⟩ := fb
  have m1 := mul_bd9 (a := an) (b := bd) (by omega) (by omega) (by omega) (by omega)
  have m2 := mul_bd9 (a := bn) (b := ad) (by omega) (by omega) (by omega) (by omega)
  have m3 := mul_bd9 (a := ad) (b := bd) (by omega) (by omega) (by omega) (by omega)
  have hd : ¬ ad * bd = 0 := mul_ne (by omega) (by omega)
  by_cases hok : lowOk (an * bd - bn * ad) (ad * bd) = true
  · go_enter Try.func133, Try.ntmps133
    go_wp2_with (go_at_call 72; refine (lowest_ok _ _ _ (by omega) (by omega) (by omega) (by omega) hd hok).mono ?_; rintro e w1 ⟨rfl, hb1⟩; obtain ⟨hc1, hf1⟩ := bcell hb1; have hs1 := hb1.size; (try simp at hs1); (try have hz0 : w.heap.size < w1.heap.size := by omega); (try have hz1 : w.heap.size + 1 < w1.heap.size := by omega); (try have hz2 : w.heap.size + 1 + 1 < w1.heap.size := by omega); (try have hz3 : w.heap.size + 1 + 1 + 1 < w1.heap.size := by omega); (try have hz4 : w.heap.size + 1 + 1 + 1 + 1 < w1.heap.size := by omega); (try have hz5 : w.heap.size + 1 + 1 + 1 + 1 + 1 < w1.heap.size := by omega))
    refine bodyPost_ret (v := .agg #[.int .i64 (lowN (an * bd - bn * ad) (ad * bd)), .int .i64 (lowD (an * bd - bn * ad) (ad * bd))]) (by simp (maxDischargeDepth := 8) [results, Try.results133, go_sem, *]) rfl ?_
    exact ⟨(lowEnd_yes hok).symm, by ((repeat' (first | exact Below.refl _ _ | assumption | refine Below.setCell ?_ ?_ _ | refine bdrewN ?_ _ | refine Below.drew ?_ | refine Below.alloc ?_ ?_ _ | refine bbehind ?_ (by assumption) ?_)); all_goals first | (simp; done) | (simp; omega) | omega)⟩
  · go_enter Try.func133, Try.ntmps133
    go_wp2_with (go_at_call 72; refine (lowest_beyond _ _ _ (by omega) (by omega) (by omega) (by omega) hd hok).mono ?_; rintro e w1 ⟨rfl, hb1⟩; obtain ⟨hc1, hf1⟩ := bcell hb1; have hs1 := hb1.size; (try simp at hs1); (try have hz0 : w.heap.size < w1.heap.size := by omega); (try have hz1 : w.heap.size + 1 < w1.heap.size := by omega); (try have hz2 : w.heap.size + 1 + 1 < w1.heap.size := by omega); (try have hz3 : w.heap.size + 1 + 1 + 1 < w1.heap.size := by omega); (try have hz4 : w.heap.size + 1 + 1 + 1 + 1 < w1.heap.size := by omega); (try have hz5 : w.heap.size + 1 + 1 + 1 + 1 + 1 < w1.heap.size := by omega))
    exact ⟨rfl, (lowEnd_not hok).symm, by ((repeat' (first | exact Below.refl _ _ | assumption | refine Below.setCell ?_ ?_ _ | refine bdrewN ?_ _ | refine Below.drew ?_ | refine Below.alloc ?_ ?_ _ | refine bbehind ?_ (by assumption) ?_)); all_goals first | (simp; done) | (simp; omega) | omega)⟩

set_option maxHeartbeats 400000 in
theorem times_any (an ad bn bd : Int) (w : World) (fa : Fit an ad) (fb : Fit bn bd) :
    Calls Try.prog 125 #[.agg #[.int .i64 an, .int .i64 ad], .agg #[.int .i64 bn, .int .i64 bd]] w fun e w' => e = lowEnd (an * bn) (ad * bd) ∧ Below w.heap.size w w' := by
  obtain ⟨a1, a2, a3, a4⟩ := fa
  obtain ⟨b1, b2, b3, b4⟩ := fb
  have m4 := mul_bd9 (a := an) (b := bn) (by omega) (by omega) (by omega) (by omega)
  have m3 := mul_bd9 (a := ad) (b := bd) (by omega) (by omega) (by omega) (by omega)
  have hd : ¬ ad * bd = 0 := mul_ne (by omega) (by omega)
  by_cases hok : lowOk (an * bn) (ad * bd) = true
  · go_enter Try.func125, Try.ntmps125
    go_wp2_with (go_at_call 72; refine (lowest_ok _ _ _ (by omega) (by omega) (by omega) (by omega) hd hok).mono ?_; rintro e w1 ⟨rfl, hb1⟩; obtain ⟨hc1, hf1⟩ := bcell hb1; have hs1 := hb1.size; (try simp at hs1); (try have hz0 : w.heap.size < w1.heap.size := by omega); (try have hz1 : w.heap.size + 1 < w1.heap.size := by omega); (try have hz2 : w.heap.size + 1 + 1 < w1.heap.size := by omega); (try have hz3 : w.heap.size + 1 + 1 + 1 < w1.heap.size := by omega); (try have hz4 : w.heap.size + 1 + 1 + 1 + 1 < w1.heap.size := by omega); (try have hz5 : w.heap.size + 1 + 1 + 1 + 1 + 1 < w1.heap.size := by omega))
    refine bodyPost_ret (v := .agg #[.int .i64 (lowN (an * bn) (ad * bd)), .int .i64 (lowD (an * bn) (ad * bd))]) (by simp (maxDischargeDepth := 8) [results, Try.results125, go_sem, *]) rfl ?_
    exact ⟨(lowEnd_yes hok).symm, by ((repeat' (first | exact Below.refl _ _ | assumption | refine Below.setCell ?_ ?_ _ | refine bdrewN ?_ _ | refine Below.drew ?_ | refine Below.alloc ?_ ?_ _ | refine bbehind ?_ (by assumption) ?_)); all_goals first | (simp; done) | (simp; omega) | omega)⟩
  · go_enter Try.func125, Try.ntmps125
    go_wp2_with (go_at_call 72; refine (lowest_beyond _ _ _ (by omega) (by omega) (by omega) (by omega) hd hok).mono ?_; rintro e w1 ⟨rfl, hb1⟩; obtain ⟨hc1, hf1⟩ := bcell hb1; have hs1 := hb1.size; (try simp at hs1); (try have hz0 : w.heap.size < w1.heap.size := by omega); (try have hz1 : w.heap.size + 1 < w1.heap.size := by omega); (try have hz2 : w.heap.size + 1 + 1 < w1.heap.size := by omega); (try have hz3 : w.heap.size + 1 + 1 + 1 < w1.heap.size := by omega); (try have hz4 : w.heap.size + 1 + 1 + 1 + 1 < w1.heap.size := by omega); (try have hz5 : w.heap.size + 1 + 1 + 1 + 1 + 1 < w1.heap.size := by omega))
    exact ⟨rfl, (lowEnd_not hok).symm, by ((repeat' (first | exact Below.refl _ _ | assumption | refine Below.setCell ?_ ?_ _ | refine bdrewN ?_ _ | refine Below.drew ?_ | refine Below.alloc ?_ ?_ _ | refine bbehind ?_ (by assumption) ?_)); all_goals first | (simp; done) | (simp; omega) | omega)⟩

set_option maxHeartbeats 400000 in
theorem over_any (an ad bn bd : Int) (w : World) (fa : Fit an ad) (fb : Fit bn bd) (h0 : ¬ bn = 0) :
    Calls Try.prog 134 #[.agg #[.int .i64 an, .int .i64 ad], .agg #[.int .i64 bn, .int .i64 bd]] w fun e w' => e = lowEnd (an * bd) (ad * bn) ∧ Below w.heap.size w w' := by
  obtain ⟨a1, a2, a3, a4⟩ := fa
  obtain ⟨b1, b2, b3, b4⟩ := fb
  have m1 := mul_bd9 (a := an) (b := bd) (by omega) (by omega) (by omega) (by omega)
  have m5 := mul_bd9 (a := ad) (b := bn) (by omega) (by omega) (by omega) (by omega)
  have hd : ¬ ad * bn = 0 := mul_ne (by omega) (by omega)
  by_cases hok : lowOk (an * bd) (ad * bn) = true
  · go_enter Try.func134, Try.ntmps134
    go_wp2_with (go_at_call 72; refine (lowest_ok _ _ _ (by omega) (by omega) (by omega) (by omega) hd hok).mono ?_; rintro e w1 ⟨rfl, hb1⟩; obtain ⟨hc1, hf1⟩ := bcell hb1; have hs1 := hb1.size; (try simp at hs1); (try have hz0 : w.heap.size < w1.heap.size := by omega); (try have hz1 : w.heap.size + 1 < w1.heap.size := by omega); (try have hz2 : w.heap.size + 1 + 1 < w1.heap.size := by omega); (try have hz3 : w.heap.size + 1 + 1 + 1 < w1.heap.size := by omega); (try have hz4 : w.heap.size + 1 + 1 + 1 + 1 < w1.heap.size := by omega); (try have hz5 : w.heap.size + 1 + 1 + 1 + 1 + 1 < w1.heap.size := by omega))
    refine bodyPost_ret (v := .agg #[.int .i64 (lowN (an * bd) (ad * bn)), .int .i64 (lowD (an * bd) (ad * bn))]) (by simp (maxDischargeDepth := 8) [results, Try.results134, go_sem, *]) rfl ?_
    exact ⟨(lowEnd_yes hok).symm, by ((repeat' (first | exact Below.refl _ _ | assumption | refine Below.setCell ?_ ?_ _ | refine bdrewN ?_ _ | refine Below.drew ?_ | refine Below.alloc ?_ ?_ _ | refine bbehind ?_ (by assumption) ?_)); all_goals first | (simp; done) | (simp; omega) | omega)⟩
  · go_enter Try.func134, Try.ntmps134
    go_wp2_with (go_at_call 72; refine (lowest_beyond _ _ _ (by omega) (by omega) (by omega) (by omega) hd hok).mono ?_; rintro e w1 ⟨rfl, hb1⟩; obtain ⟨hc1, hf1⟩ := bcell hb1; have hs1 := hb1.size; (try simp at hs1); (try have hz0 : w.heap.size < w1.heap.size := by omega); (try have hz1 : w.heap.size + 1 < w1.heap.size := by omega); (try have hz2 : w.heap.size + 1 + 1 < w1.heap.size := by omega); (try have hz3 : w.heap.size + 1 + 1 + 1 < w1.heap.size := by omega); (try have hz4 : w.heap.size + 1 + 1 + 1 + 1 < w1.heap.size := by omega); (try have hz5 : w.heap.size + 1 + 1 + 1 + 1 + 1 < w1.heap.size := by omega))
    exact ⟨rfl, (lowEnd_not hok).symm, by ((repeat' (first | exact Below.refl _ _ | assumption | refine Below.setCell ?_ ?_ _ | refine bdrewN ?_ _ | refine Below.drew ?_ | refine Below.alloc ?_ ?_ _ | refine bbehind ?_ (by assumption) ?_)); all_goals first | (simp; done) | (simp; omega) | omega)⟩

end Go.Proofs.Ytgefidffhdanhaa
