import Derived.Test.YtgefidffhdanhaaNumJ
namespace Go.Proofs.Ytgefidffhdanhaa
open Go.RowKit Go.BigFrame

theorem lowOk_01 : lowOk 0 1 = true := by decide +kernel
theorem lowEnd_01 : lowEnd 0 1 = .returned (.agg #[.int .i64 0, .int .i64 1]) := lowEnd_yes lowOk_01

theorem smp_mid {an ad bn bd : Int} (h : an < 0 ∧ 0 < bn) : smp an ad bn bd = (0, 1) := if_pos h
theorem smp_neg {an ad bn bd : Int} (h : an < 0) (k : ¬ 0 < bn) : smp an ad bn bd = (-(btw (ad + bd).toNat (-bn) bd (-an) ad).1, (btw (ad + bd).toNat (-bn) bd (-an) ad).2) := by
  unfold smp; rw [if_neg (by omega), if_pos h]
theorem smp_pos {an ad bn bd : Int} (h : ¬ an < 0) : smp an ad bn bd = btw (ad + bd).toNat an ad bn bd := by
  unfold smp; rw [if_neg (by omega), if_neg h]

/-- the simplest number's parts are in range. -/
theorem smp_bd {an ad bn bd : Int} (fa : Fit an ad) (fb : Fit bn bd) (h : an * bd < bn * ad) :
    -2000000000 ≤ (smp an ad bn bd).1 ∧ (smp an ad bn bd).1 ≤ 2000000000 ∧ 1 ≤ (smp an ad bn bd).2 ∧ (smp an ad bn bd).2 ≤ 2000000000 := by
  obtain ⟨a1, a2, a3, a4⟩ := fa
  obtain ⟨b1, b2, b3, b4⟩ := fb
  have S := smp_strong a3 b3 h
  have := S.xle
  have := S.y1
  omega

set_option maxHeartbeats 2000000 in
theorem simpClo_any (b0 b1 : Nat) (an ad bn bd : Int) (w : World) (fa : Fit an ad) (fb : Fit bn bd) (h : an * bd < bn * ad)
    (c1 : w.cell? ⟨b0, 0, none⟩ = some (.int .i64 an)) (c2 : w.cell? ⟨b0, 1, none⟩ = some (.int .i64 ad))
    (c3 : w.cell? ⟨b1, 0, none⟩ = some (.int .i64 bn)) (c4 : w.cell? ⟨b1, 1, none⟩ = some (.int .i64 bd)) (k0 : b0 < w.heap.size) (k1 : b1 < w.heap.size) :
    Calls Try.prog 99 #[.pointer (some ⟨b0, 0, none⟩), .pointer (some ⟨b1, 0, none⟩)] w fun e w' => e = lowEnd (smp an ad bn bd).1 (smp an ad bn bd).2 ∧ Below w.heap.size w w' := by
  have B := smp_bd fa fb h
  obtain ⟨a1, a2, a3, a4⟩ := fa
  obtain ⟨f1, f2, f3, f4⟩ := fb
  have k2 : b0 ≤ w.heap.size := by omega
  have k3 : b1 ≤ w.heap.size := by omega
  by_cases hn : an < 0
  · by_cases hb : 0 < bn
    · rw [smp_mid ⟨hn, hb⟩, lowEnd_01]
      clear h B
      go_enter Try.func99, Try.ntmps99
      go_wp2
      refine bodyPost_ret (v := .agg #[.int .i64 0, .int .i64 1]) (by simp (maxDischargeDepth := 8) [results, Try.results99, go_sem, *]) rfl ?_
      exact ⟨rfl, by ((repeat' (first | exact Below.refl _ _ | assumption | refine Below.setCell ?_ ?_ _ | refine bdrewN ?_ _ | refine Below.drew ?_ | refine Below.alloc ?_ ?_ _ | refine bbehind ?_ (by assumption) ?_)); all_goals first | (simp; done) | (simp; omega) | omega)⟩
    · have R := Lib.hid (fun w => between_any (ad + bd).toNat (-bn) bd (-an) ad w (by omega) (by omega) f3 f4 (by omega) (by omega) (by omega) (by omega) (by grind) (by omega))
      rw [smp_neg hn hb] at B ⊢
      clear h
      generalize btw (ad + bd).toNat (-bn) bd (-an) ad = s at *
      obtain ⟨x, y⟩ := s
      simp only at *
      have y0 : ¬ y = 0 := by omega
      by_cases hok : lowOk (-x) y = true
      · go_enter Try.func99, Try.ntmps99
        go_wp2_with (first | (go_at_call 100; refine (R.out _).mono ?_; rintro e w1 ⟨rfl, hb1⟩; obtain ⟨hc1, hf1⟩ := bcell hb1; have hs1 := hb1.size; (try simp at hs1); (try have hz0 : w.heap.size < w1.heap.size := by omega); (try have hz1 : w.heap.size + 1 < w1.heap.size := by omega); (try have hz2 : w.heap.size + 1 + 1 < w1.heap.size := by omega); (try have hz3 : w.heap.size + 1 + 1 + 1 < w1.heap.size := by omega); (try have hz4 : w.heap.size + 1 + 1 + 1 + 1 < w1.heap.size := by omega); (try have hz5 : w.heap.size + 1 + 1 + 1 + 1 + 1 < w1.heap.size := by omega)) | (go_at_call 72; refine (lowest_ok _ _ _ (by omega) (by omega) (by omega) (by omega) y0 hok).mono ?_; rintro e w1 ⟨rfl, hb1⟩; obtain ⟨hc1, hf1⟩ := bcell hb1; have hs1 := hb1.size; (try simp at hs1); (try have hz0 : w.heap.size < w1.heap.size := by omega); (try have hz1 : w.heap.size + 1 < w1.heap.size := by omega); (try have hz2 : w.heap.size + 1 + 1 < w1.heap.size := by omega); (try have hz3 : w.heap.size + 1 + 1 + 1 < w1.heap.size := by omega); (try have hz4 : w.heap.size + 1 + 1 + 1 + 1 < w1.heap.size := by omega); (try have hz5 : w.heap.size + 1 + 1 + 1 + 1 + 1 < w1.heap.size := by omega)))
        refine bodyPost_ret (v := .agg #[.int .i64 (lowN (-x) y), .int .i64 (lowD (-x) y)]) (by simp (maxDischargeDepth := 8) [results, Try.results99, go_sem, *]) rfl ?_
        exact ⟨(lowEnd_yes hok).symm, by ((repeat' (first | exact Below.refl _ _ | assumption | refine Below.setCell ?_ ?_ _ | refine bdrewN ?_ _ | refine Below.drew ?_ | refine Below.alloc ?_ ?_ _ | refine bbehind ?_ (by assumption) ?_)); all_goals first | (simp; done) | (simp; omega) | omega)⟩
      · go_enter Try.func99, Try.ntmps99
        go_wp2_with (first | (go_at_call 100; refine (R.out _).mono ?_; rintro e w1 ⟨rfl, hb1⟩; obtain ⟨hc1, hf1⟩ := bcell hb1; have hs1 := hb1.size; (try simp at hs1); (try have hz0 : w.heap.size < w1.heap.size := by omega); (try have hz1 : w.heap.size + 1 < w1.heap.size := by omega); (try have hz2 : w.heap.size + 1 + 1 < w1.heap.size := by omega); (try have hz3 : w.heap.size + 1 + 1 + 1 < w1.heap.size := by omega); (try have hz4 : w.heap.size + 1 + 1 + 1 + 1 < w1.heap.size := by omega); (try have hz5 : w.heap.size + 1 + 1 + 1 + 1 + 1 < w1.heap.size := by omega)) | (go_at_call 72; refine (lowest_beyond _ _ _ (by omega) (by omega) (by omega) (by omega) y0 hok).mono ?_; rintro e w1 ⟨rfl, hb1⟩; obtain ⟨hc1, hf1⟩ := bcell hb1; have hs1 := hb1.size; (try simp at hs1); (try have hz0 : w.heap.size < w1.heap.size := by omega); (try have hz1 : w.heap.size + 1 < w1.heap.size := by omega); (try have hz2 : w.heap.size + 1 + 1 < w1.heap.size := by omega); (try have hz3 : w.heap.size + 1 + 1 + 1 < w1.heap.size := by omega); (try have hz4 : w.heap.size + 1 + 1 + 1 + 1 < w1.heap.size := by omega); (try have hz5 : w.heap.size + 1 + 1 + 1 + 1 + 1 < w1.heap.size := by omega)))
        exact ⟨rfl, (lowEnd_not hok).symm, by ((repeat' (first | exact Below.refl _ _ | assumption | refine Below.setCell ?_ ?_ _ | refine bdrewN ?_ _ | refine Below.drew ?_ | refine Below.alloc ?_ ?_ _ | refine bbehind ?_ (by assumption) ?_)); all_goals first | (simp; done) | (simp; omega) | omega)⟩
  · have hbn : 1 ≤ bn := by
      have h3 : 0 ≤ an * bd := Int.mul_nonneg (by omega) (by omega)
      have h4 : 0 < bn * ad := by omega
      have := Int.pos_of_mul_pos_left h4 (by omega)
      omega
    have R := Lib.hid (fun w => between_any (ad + bd).toNat an ad bn bd w (by omega) (by omega) (by omega) (by omega) (by omega) (by omega) (by omega) (by omega) h (by omega))
    rw [smp_pos hn] at B ⊢
    clear h
    generalize btw (ad + bd).toNat an ad bn bd = s at *
    obtain ⟨x, y⟩ := s
    simp only at *
    have y0 : ¬ y = 0 := by omega
    by_cases hok : lowOk x y = true
    · go_enter Try.func99, Try.ntmps99
      go_wp2_with (first | (go_at_call 100; refine (R.out _).mono ?_; rintro e w1 ⟨rfl, hb1⟩; obtain ⟨hc1, hf1⟩ := bcell hb1; have hs1 := hb1.size; (try simp at hs1); (try have hz0 : w.heap.size < w1.heap.size := by omega); (try have hz1 : w.heap.size + 1 < w1.heap.size := by omega); (try have hz2 : w.heap.size + 1 + 1 < w1.heap.size := by omega); (try have hz3 : w.heap.size + 1 + 1 + 1 < w1.heap.size := by omega); (try have hz4 : w.heap.size + 1 + 1 + 1 + 1 < w1.heap.size := by omega); (try have hz5 : w.heap.size + 1 + 1 + 1 + 1 + 1 < w1.heap.size := by omega)) | (go_at_call 72; refine (lowest_ok _ _ _ (by omega) (by omega) (by omega) (by omega) y0 hok).mono ?_; rintro e w1 ⟨rfl, hb1⟩; obtain ⟨hc1, hf1⟩ := bcell hb1; have hs1 := hb1.size; (try simp at hs1); (try have hz0 : w.heap.size < w1.heap.size := by omega); (try have hz1 : w.heap.size + 1 < w1.heap.size := by omega); (try have hz2 : w.heap.size + 1 + 1 < w1.heap.size := by omega); (try have hz3 : w.heap.size + 1 + 1 + 1 < w1.heap.size := by omega); (try have hz4 : w.heap.size + 1 + 1 + 1 + 1 < w1.heap.size := by omega); (try have hz5 : w.heap.size + 1 + 1 + 1 + 1 + 1 < w1.heap.size := by omega)))
      refine bodyPost_ret (v := .agg #[.int .i64 (lowN x y), .int .i64 (lowD x y)]) (by simp (maxDischargeDepth := 8) [results, Try.results99, go_sem, *]) rfl ?_
      exact ⟨(lowEnd_yes hok).symm, by ((repeat' (first | exact Below.refl _ _ | assumption | refine Below.setCell ?_ ?_ _ | refine bdrewN ?_ _ | refine Below.drew ?_ | refine Below.alloc ?_ ?_ _ | refine bbehind ?_ (by assumption) ?_)); all_goals first | (simp; done) | (simp; omega) | omega)⟩
    · go_enter Try.func99, Try.ntmps99
      go_wp2_with (first | (go_at_call 100; refine (R.out _).mono ?_; rintro e w1 ⟨rfl, hb1⟩; obtain ⟨hc1, hf1⟩ := bcell hb1; have hs1 := hb1.size; (try simp at hs1); (try have hz0 : w.heap.size < w1.heap.size := by omega); (try have hz1 : w.heap.size + 1 < w1.heap.size := by omega); (try have hz2 : w.heap.size + 1 + 1 < w1.heap.size := by omega); (try have hz3 : w.heap.size + 1 + 1 + 1 < w1.heap.size := by omega); (try have hz4 : w.heap.size + 1 + 1 + 1 + 1 < w1.heap.size := by omega); (try have hz5 : w.heap.size + 1 + 1 + 1 + 1 + 1 < w1.heap.size := by omega)) | (go_at_call 72; refine (lowest_beyond _ _ _ (by omega) (by omega) (by omega) (by omega) y0 hok).mono ?_; rintro e w1 ⟨rfl, hb1⟩; obtain ⟨hc1, hf1⟩ := bcell hb1; have hs1 := hb1.size; (try simp at hs1); (try have hz0 : w.heap.size < w1.heap.size := by omega); (try have hz1 : w.heap.size + 1 < w1.heap.size := by omega); (try have hz2 : w.heap.size + 1 + 1 < w1.heap.size := by omega); (try have hz3 : w.heap.size + 1 + 1 + 1 < w1.heap.size := by omega); (try have hz4 : w.heap.size + 1 + 1 + 1 + 1 < w1.heap.size := by omega); (try have hz5 : w.heap.size + 1 + 1 + 1 + 1 + 1 < w1.heap.size := by omega)))
      exact ⟨rfl, (lowEnd_not hok).symm, by ((repeat' (first | exact Below.refl _ _ | assumption | refine Below.setCell ?_ ?_ _ | refine bdrewN ?_ _ | refine Below.drew ?_ | refine Below.alloc ?_ ?_ _ | refine bbehind ?_ (by assumption) ?_)); all_goals first | (simp; done) | (simp; omega) | omega)⟩

theorem bc_simplest (b0 b1 : Nat) (an ad bn bd : Int) (w : World) (fa : Fit an ad) (fb : Fit bn bd) (h : an * bd < bn * ad)
    (c1 : w.cell? ⟨b0, 0, none⟩ = some (.int .i64 an)) (c2 : w.cell? ⟨b0, 1, none⟩ = some (.int .i64 ad))
    (c3 : w.cell? ⟨b1, 0, none⟩ = some (.int .i64 bn)) (c4 : w.cell? ⟨b1, 1, none⟩ = some (.int .i64 bd)) (k0 : b0 < w.heap.size) (k1 : b1 < w.heap.size) :
    Calls Try.prog 70 #[.func (.func 99) #[] #[.pointer (some ⟨b0, 0, none⟩), .pointer (some ⟨b1, 0, none⟩)]] w fun e w' => e = .returned (.tuple #[.agg #[.int .i64 (lowT (smp an ad bn bd).1 (smp an ad bn bd).2).1, .int .i64 (lowT (smp an ad bn bd).1 (smp an ad bn bd).2).2.1], .int .i64 (lowT (smp an ad bn bd).1 (smp an ad bn bd).2).2.2]) ∧ Below w.heap.size w w' := by
  have hf : ∀ w1, Below w.heap.size w w1 → Calls Try.prog 99 #[.pointer (some ⟨b0, 0, none⟩), .pointer (some ⟨b1, 0, none⟩)] w1 fun e w' => e = lowEnd (smp an ad bn bd).1 (smp an ad bn bd).2 ∧ Below w1.heap.size w1 w' := fun w1 hw => by
    obtain ⟨hc, _⟩ := bcell hw
    have hz := hw.size
    exact simpClo_any b0 b1 an ad bn bd w1 fa fb h ((hc _ _ k0).trans c1) ((hc _ _ k0).trans c2) ((hc _ _ k1).trans c3) ((hc _ _ k1).trans c4) (by omega) (by omega)
  by_cases hok : lowOk (smp an ad bn bd).1 (smp an ad bn bd).2 = true
  · rw [lowT_yes hok]
    exact bounded_ret _ _ _ _ w (fun w1 => by kernel_rfl) (fun w1 hw => low_yes hok (hf w1 hw))
  · rw [lowT_not hok]
    exact bounded_beyond _ _ w (fun w1 => by kernel_rfl) (fun w1 hw => low_not hok (hf w1 hw))

def simT (an ad bn bd : Int) : Int × Int × Int := twoT an ad bn bd (if an * bd < bn * ad then lowT (smp an ad bn bd).1 (smp an ad bn bd).2 else (0, 0, 10))

theorem cmpM_lt {a b : Int} (h : a < b) : cmpM a b = -1 := if_pos h
theorem cmpM_ge {a b : Int} (h : ¬ a < b) : 0 ≤ cmpM a b := by unfold cmpM; rw [if_neg h]; split <;> omega

set_option maxHeartbeats 2000000 in
theorem simplest_any (an ad bn bd : Int) (w : World) :
    Calls Try.prog 47 #[.agg #[.int .i64 an, .int .i64 ad], .agg #[.int .i64 bn, .int .i64 bd]] w fun e w' => e = .returned (.tuple #[.agg #[.int .i64 (simT an ad bn bd).1, .int .i64 (simT an ad bn bd).2.1], .int .i64 (simT an ad bn bd).2.2]) ∧ Below w.heap.size w w' := by
  have hmf : ∀ (fn : Fn) (first cap : Array Value) (w : World), (Instr.makeFunc fn first cap).run Try.prog w = .ok (.func fn first cap) w := fun _ _ _ _ => rfl
  unfold simT
  by_cases hA : chk an ad = 0
  · by_cases hB : chk bn bd = 0
    · have fa := fit_of_chk hA
      have fb := fit_of_chk hB
      rw [twoT_r hA hB]
      by_cases h : an * bd < bn * ad
      · have C := Lib.hid (fun w => fcompare_any an ad bn bd w fa fb)
        have D := Lib.hid (fun b0 b1 w => bc_simplest b0 b1 an ad bn bd w fa fb h)
        rw [cmpM_lt h] at C
        rw [if_pos h]
        clear h
        go_enter Try.func47, Try.ntmps47
        go_wp2_with (first | (go_at_call 74; refine (firstError_two _ an ad bn bd _ (by simp) (by simp [go_sem]) (by simp [go_sem]) (by simp [go_sem]) (by simp [go_sem])).mono ?_; rintro e w1 ⟨rfl, hb1⟩; obtain ⟨hc1, hf1⟩ := bcell hb1; have hs1 := hb1.size; (try simp at hs1); (try have hz0 : w.heap.size < w1.heap.size := by omega); (try have hz1 : w.heap.size + 1 < w1.heap.size := by omega); (try have hz2 : w.heap.size + 1 + 1 < w1.heap.size := by omega); (try have hz3 : w.heap.size + 1 + 1 + 1 < w1.heap.size := by omega); (try have hz4 : w.heap.size + 1 + 1 + 1 + 1 < w1.heap.size := by omega); (try have hz5 : w.heap.size + 1 + 1 + 1 + 1 + 1 < w1.heap.size := by omega)) | (go_at_call 75; refine (C.out _).mono ?_; rintro e w1 ⟨rfl, hb1⟩; obtain ⟨hc1, hf1⟩ := bcell hb1; have hs1 := hb1.size; (try simp at hs1); (try have hz0 : w.heap.size < w1.heap.size := by omega); (try have hz1 : w.heap.size + 1 < w1.heap.size := by omega); (try have hz2 : w.heap.size + 1 + 1 < w1.heap.size := by omega); (try have hz3 : w.heap.size + 1 + 1 + 1 < w1.heap.size := by omega); (try have hz4 : w.heap.size + 1 + 1 + 1 + 1 < w1.heap.size := by omega); (try have hz5 : w.heap.size + 1 + 1 + 1 + 1 + 1 < w1.heap.size := by omega)) | (go_at_call 70; refine (D.out _ _ _ (by simp (maxDischargeDepth := 8) [go_sem, *]) (by simp (maxDischargeDepth := 8) [go_sem, *]) (by simp (maxDischargeDepth := 8) [go_sem, *]) (by simp (maxDischargeDepth := 8) [go_sem, *]) (by first | assumption | (simp; done) | (simp; omega) | omega) (by first | assumption | (simp; done) | (simp; omega) | omega)).mono ?_; rintro e w1 ⟨rfl, hb1⟩; obtain ⟨hc1, hf1⟩ := bcell hb1; have hs1 := hb1.size; (try simp at hs1); (try have hz0 : w.heap.size < w1.heap.size := by omega); (try have hz1 : w.heap.size + 1 < w1.heap.size := by omega); (try have hz2 : w.heap.size + 1 + 1 < w1.heap.size := by omega); (try have hz3 : w.heap.size + 1 + 1 + 1 < w1.heap.size := by omega); (try have hz4 : w.heap.size + 1 + 1 + 1 + 1 < w1.heap.size := by omega); (try have hz5 : w.heap.size + 1 + 1 + 1 + 1 + 1 < w1.heap.size := by omega)))
        refine bodyPost_ret (v := .tuple #[.agg #[.int .i64 (lowT (smp an ad bn bd).1 (smp an ad bn bd).2).1, .int .i64 (lowT (smp an ad bn bd).1 (smp an ad bn bd).2).2.1], .int .i64 (lowT (smp an ad bn bd).1 (smp an ad bn bd).2).2.2]) (by simp (maxDischargeDepth := 8) [results, Try.results47, go_sem, *]) rfl ?_
        exact ⟨rfl, by ((repeat' (first | exact Below.refl _ _ | assumption | refine Below.setCell ?_ ?_ _ | refine bdrewN ?_ _ | refine Below.drew ?_ | refine Below.alloc ?_ ?_ _ | refine bbehind ?_ (by assumption) ?_)); all_goals first | (simp; done) | (simp; omega) | omega)⟩
      · have C := Lib.hid (fun w => fcompare_any an ad bn bd w fa fb)
        have g := cmpM_ge h
        rw [if_neg h]
        clear h
        generalize cmpM (an * bd) (bn * ad) = c at *
        go_enter Try.func47, Try.ntmps47
        go_wp2_with (first | (go_at_call 74; refine (firstError_two _ an ad bn bd _ (by simp) (by simp [go_sem]) (by simp [go_sem]) (by simp [go_sem]) (by simp [go_sem])).mono ?_; rintro e w1 ⟨rfl, hb1⟩; obtain ⟨hc1, hf1⟩ := bcell hb1; have hs1 := hb1.size; (try simp at hs1); (try have hz0 : w.heap.size < w1.heap.size := by omega); (try have hz1 : w.heap.size + 1 < w1.heap.size := by omega); (try have hz2 : w.heap.size + 1 + 1 < w1.heap.size := by omega); (try have hz3 : w.heap.size + 1 + 1 + 1 < w1.heap.size := by omega); (try have hz4 : w.heap.size + 1 + 1 + 1 + 1 < w1.heap.size := by omega); (try have hz5 : w.heap.size + 1 + 1 + 1 + 1 + 1 < w1.heap.size := by omega)) | (go_at_call 75; refine (C.out _).mono ?_; rintro e w1 ⟨rfl, hb1⟩; obtain ⟨hc1, hf1⟩ := bcell hb1; have hs1 := hb1.size; (try simp at hs1); (try have hz0 : w.heap.size < w1.heap.size := by omega); (try have hz1 : w.heap.size + 1 < w1.heap.size := by omega); (try have hz2 : w.heap.size + 1 + 1 < w1.heap.size := by omega); (try have hz3 : w.heap.size + 1 + 1 + 1 < w1.heap.size := by omega); (try have hz4 : w.heap.size + 1 + 1 + 1 + 1 < w1.heap.size := by omega); (try have hz5 : w.heap.size + 1 + 1 + 1 + 1 + 1 < w1.heap.size := by omega)))
        refine bodyPost_ret (v := .tuple #[.agg #[.int .i64 0, .int .i64 0], .int .i64 10]) (by simp (maxDischargeDepth := 8) [results, Try.results47, go_sem, *]) rfl ?_
        exact ⟨rfl, by ((repeat' (first | exact Below.refl _ _ | assumption | refine Below.setCell ?_ ?_ _ | refine bdrewN ?_ _ | refine Below.drew ?_ | refine Below.alloc ?_ ?_ _ | refine bbehind ?_ (by assumption) ?_)); all_goals first | (simp; done) | (simp; omega) | omega)⟩
    · have hB' : (chk bn bd != 0) = true := by simpa using hB
      rw [twoT_b hA hB]
      have HB := Lib.hid hB; clear hB
      go_enter Try.func47, Try.ntmps47
      go_wp2_with (go_at_call 74; refine (firstError_two _ an ad bn bd _ (by simp) (by simp [go_sem]) (by simp [go_sem]) (by simp [go_sem]) (by simp [go_sem])).mono ?_; rintro e w1 ⟨rfl, hb1⟩; obtain ⟨hc1, hf1⟩ := bcell hb1; have hs1 := hb1.size; (try simp at hs1); (try have hz0 : w.heap.size < w1.heap.size := by omega); (try have hz1 : w.heap.size + 1 < w1.heap.size := by omega); (try have hz2 : w.heap.size + 1 + 1 < w1.heap.size := by omega); (try have hz3 : w.heap.size + 1 + 1 + 1 < w1.heap.size := by omega); (try have hz4 : w.heap.size + 1 + 1 + 1 + 1 < w1.heap.size := by omega); (try have hz5 : w.heap.size + 1 + 1 + 1 + 1 + 1 < w1.heap.size := by omega))
      refine bodyPost_ret (v := .tuple #[.agg #[.int .i64 0, .int .i64 0], .int .i64 (chk bn bd)]) (by simp (maxDischargeDepth := 8) [results, Try.results47, go_sem, *]) rfl ?_
      exact ⟨rfl, by ((repeat' (first | exact Below.refl _ _ | assumption | refine Below.setCell ?_ ?_ _ | refine bdrewN ?_ _ | refine Below.drew ?_ | refine Below.alloc ?_ ?_ _ | refine bbehind ?_ (by assumption) ?_)); all_goals first | (simp; done) | (simp; omega) | omega)⟩
  · have hA' : (chk an ad != 0) = true := by simpa using hA
    rw [twoT_a hA]
    have HA := Lib.hid hA; clear hA
    go_enter Try.func47, Try.ntmps47
    go_wp2_with (go_at_call 74; refine (firstError_two _ an ad bn bd _ (by simp) (by simp [go_sem]) (by simp [go_sem]) (by simp [go_sem]) (by simp [go_sem])).mono ?_; rintro e w1 ⟨rfl, hb1⟩; obtain ⟨hc1, hf1⟩ := bcell hb1; have hs1 := hb1.size; (try simp at hs1); (try have hz0 : w.heap.size < w1.heap.size := by omega); (try have hz1 : w.heap.size + 1 < w1.heap.size := by omega); (try have hz2 : w.heap.size + 1 + 1 < w1.heap.size := by omega); (try have hz3 : w.heap.size + 1 + 1 + 1 < w1.heap.size := by omega); (try have hz4 : w.heap.size + 1 + 1 + 1 + 1 < w1.heap.size := by omega); (try have hz5 : w.heap.size + 1 + 1 + 1 + 1 + 1 < w1.heap.size := by omega))
    refine bodyPost_ret (v := .tuple #[.agg #[.int .i64 0, .int .i64 0], .int .i64 (chk an ad)]) (by simp (maxDischargeDepth := 8) [results, Try.results47, go_sem, *]) rfl ?_
    exact ⟨rfl, by ((repeat' (first | exact Below.refl _ _ | assumption | refine Below.setCell ?_ ?_ _ | refine bdrewN ?_ _ | refine Below.drew ?_ | refine Below.alloc ?_ ?_ _ | refine bbehind ?_ (by assumption) ?_)); all_goals first | (simp; done) | (simp; omega) | omega)⟩
end Go.Proofs.Ytgefidffhdanhaa
