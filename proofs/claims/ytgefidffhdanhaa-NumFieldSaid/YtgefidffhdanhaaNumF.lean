import Derived.Test.YtgefidffhdanhaaNumE
namespace Go.Proofs.Ytgefidffhdanhaa
open Go.RowKit Go.BigFrame

theorem fit_of_chk {n d : Int} (h : chk n d = 0) : Fit n d := by
  unfold chk at h
  split at h
  · cases h
  · constructor <;> omega
theorem gcd_of_chk {n d : Int} (h : chk n d = 0) : gcdM n d = 1 := by
  have hf := fit_of_chk h
  have h1 := gcdM_pos n d (by have := hf.dlo; omega)
  unfold chk at h
  split at h
  · cases h
  · split at h
    · cases h
    · omega

theorem firstErr_two (a b c d : Int) : firstErr [(a, b), (c, d)] = if chk a b = 0 then chk c d else chk a b := by
  unfold firstErr
  split
  · unfold firstErr; split
    · rename_i h; rw [h]; rfl
    · rfl
  · rfl

/-- a number in lowest terms, and its error. -/
def lowT (n d : Int) : Int × Int × Int := if lowOk n d then (lowN n d, lowD n d, 0) else (0, 0, 8)
theorem lowT_yes {n d : Int} (h : lowOk n d = true) : lowT n d = (lowN n d, lowD n d, 0) := if_pos h
theorem lowT_not {n d : Int} (h : ¬ lowOk n d = true) : lowT n d = (0, 0, 8) := if_neg h
/-- what a function of two numbers answers: their errors first. -/
def twoT (an ad bn bd : Int) (r : Int × Int × Int) : Int × Int × Int := if chk an ad = 0 then (if chk bn bd = 0 then r else (0, 0, chk bn bd)) else (0, 0, chk an ad)
theorem twoT_a {an ad bn bd : Int} {r : Int × Int × Int} (h : ¬ chk an ad = 0) : twoT an ad bn bd r = (0, 0, chk an ad) := if_neg h
theorem twoT_b {an ad bn bd : Int} {r : Int × Int × Int} (h : chk an ad = 0) (k : ¬ chk bn bd = 0) : twoT an ad bn bd r = (0, 0, chk bn bd) := by unfold twoT; rw [if_pos h, if_neg k]
theorem twoT_r {an ad bn bd : Int} {r : Int × Int × Int} (h : chk an ad = 0) (k : chk bn bd = 0) : twoT an ad bn bd r = r := by unfold twoT; rw [if_pos h, if_pos k]

theorem numsAt_two {w : World} {b : Nat} {an ad bn bd : Int} (h0 : w.cell? ⟨b, 0, none⟩ = some (.int .i64 an)) (h1 : w.cell? ⟨b, 1, none⟩ = some (.int .i64 ad))
    (h2 : w.cell? ⟨b, 2, none⟩ = some (.int .i64 bn)) (h3 : w.cell? ⟨b, 3, none⟩ = some (.int .i64 bd)) : NumsAt w b 0 [(an, ad), (bn, bd)] := by
  intro k hk
  have : k = 0 ∨ k = 1 := by simp at hk; omega
  rcases this with rfl | rfl
  · exact ⟨h0, h1⟩
  · exact ⟨h2, h3⟩

/-- the two numbers of a call, laid side by side. -/
theorem firstError_two (b : Nat) (an ad bn bd : Int) (w : World) (hb : b < w.heap.size) (h0 : w.cell? ⟨b, 0, none⟩ = some (.int .i64 an)) (h1 : w.cell? ⟨b, 1, none⟩ = some (.int .i64 ad))
    (h2 : w.cell? ⟨b, 2, none⟩ = some (.int .i64 bn)) (h3 : w.cell? ⟨b, 3, none⟩ = some (.int .i64 bd)) :
    Calls Try.prog 74 #[.slice (some ⟨b, 0, none⟩) 2 2] w fun e w' => e = .returned (.int .i64 (if chk an ad = 0 then chk bn bd else chk an ad)) ∧ Below w.heap.size w w' := by
  rw [← firstErr_two]
  exact firstError_any b 0 2 [(an, ad), (bn, bd)] w (by simp) hb (numsAt_two h0 h1 h2 h3)


theorem bc_plus (b0 b1 b2 : Nat) (an ad bn bd : Int) (w : World) (fa : Fit an ad) (fb : Fit bn bd)
    (h1 : w.cell? ⟨b0, 0, none⟩ = some (.int .i64 0)) (h2 : w.cell? ⟨b1, 0, none⟩ = some (.int .i64 an)) (h3 : w.cell? ⟨b1, 1, none⟩ = some (.int .i64 ad))
    (h4 : w.cell? ⟨b2, 0, none⟩ = some (.int .i64 bn)) (h5 : w.cell? ⟨b2, 1, none⟩ = some (.int .i64 bd)) (k0 : b0 < w.heap.size) (k1 : b1 < w.heap.size) (k2 : b2 < w.heap.size) :
    Calls Try.prog 70 #[.func (.func 122) #[] #[.pointer (some ⟨b0, 0, none⟩), .pointer (some ⟨b1, 0, none⟩), .pointer (some ⟨b2, 0, none⟩)]] w fun e w' => e = .returned (.tuple #[.agg #[.int .i64 (lowT (an * bd + bn * ad) (ad * bd)).1, .int .i64 (lowT (an * bd + bn * ad) (ad * bd)).2.1], .int .i64 (lowT (an * bd + bn * ad) (ad * bd)).2.2]) ∧ Below w.heap.size w w' := by
  have hf : ∀ w1, Below w.heap.size w w1 → Calls Try.prog 122 #[.pointer (some ⟨b0, 0, none⟩), .pointer (some ⟨b1, 0, none⟩), .pointer (some ⟨b2, 0, none⟩)] w1 fun e w' => e = lowEnd (an * bd + bn * ad) (ad * bd) ∧ Below w1.heap.size w1 w' := fun w1 hw => by
    obtain ⟨hc, _⟩ := bcell hw
    have hz := hw.size
    exact clo_plus b0 b1 b2 an ad bn bd w1 fa fb ((hc _ _ k0).trans h1) ((hc _ _ k1).trans h2) ((hc _ _ k1).trans h3) ((hc _ _ k2).trans h4) ((hc _ _ k2).trans h5) (by omega) (by omega) (by omega)
  by_cases hok : lowOk (an * bd + bn * ad) (ad * bd) = true
  · rw [lowT_yes hok]
    exact bounded_ret _ _ _ _ w (fun w1 => by kernel_rfl) (fun w1 hw => low_yes hok (hf w1 hw))
  · rw [lowT_not hok]
    exact bounded_beyond _ _ w (fun w1 => by kernel_rfl) (fun w1 hw => low_not hok (hf w1 hw))

set_option maxHeartbeats 1600000 in
theorem plus_compute (an ad bn bd : Int) (w : World) :
    Calls Try.prog 78 #[.int .i64 0, .agg #[.int .i64 an, .int .i64 ad], .agg #[.int .i64 bn, .int .i64 bd]] w fun e w' =>
      e = .returned (.tuple #[.agg #[.int .i64 (twoT an ad bn bd (lowT (an * bd + bn * ad) (ad * bd))).1, .int .i64 (twoT an ad bn bd (lowT (an * bd + bn * ad) (ad * bd))).2.1], .int .i64 (twoT an ad bn bd (lowT (an * bd + bn * ad) (ad * bd))).2.2]) ∧ Below w.heap.size w w' := by
  have hmf : ∀ (fn : Fn) (first cap : Array Value) (w : World), (Instr.makeFunc fn first cap).run Try.prog w = .ok (.func fn first cap) w := fun _ _ _ _ => rfl
  by_cases hA : chk an ad = 0
  · by_cases hB : chk bn bd = 0
    · have fa := fit_of_chk hA
      have fb := fit_of_chk hB
      rw [twoT_r hA hB]
      go_enter Try.func78, Try.ntmps78
      go_wp2_with (go_at_call 74; refine (firstError_two _ an ad bn bd _ (by simp) (by simp [go_sem]) (by simp [go_sem]) (by simp [go_sem]) (by simp [go_sem])).mono ?_; rintro e w1 ⟨rfl, hb1⟩; obtain ⟨hc1, hf1⟩ := bcell hb1; have hs1 := hb1.size; (try simp at hs1); (try have hz0 : w.heap.size < w1.heap.size := by omega); (try have hz1 : w.heap.size + 1 < w1.heap.size := by omega); (try have hz2 : w.heap.size + 1 + 1 < w1.heap.size := by omega); (try have hz3 : w.heap.size + 1 + 1 + 1 < w1.heap.size := by omega); (try have hz4 : w.heap.size + 1 + 1 + 1 + 1 < w1.heap.size := by omega); (try have hz5 : w.heap.size + 1 + 1 + 1 + 1 + 1 < w1.heap.size := by omega))
      go_wp2_with (go_at_call 70; refine (bc_plus _ _ _ an ad bn bd _ fa fb (by simp (maxDischargeDepth := 8) [go_sem, *]) (by simp (maxDischargeDepth := 8) [go_sem, *]) (by simp (maxDischargeDepth := 8) [go_sem, *]) (by simp (maxDischargeDepth := 8) [go_sem, *]) (by simp (maxDischargeDepth := 8) [go_sem, *]) (by assumption) (by assumption) (by assumption)).mono ?_; rintro e w1 ⟨rfl, hb1⟩; obtain ⟨hc1, hf1⟩ := bcell hb1; have hs1 := hb1.size; (try simp at hs1); (try have hz0 : w.heap.size < w1.heap.size := by omega); (try have hz1 : w.heap.size + 1 < w1.heap.size := by omega); (try have hz2 : w.heap.size + 1 + 1 < w1.heap.size := by omega); (try have hz3 : w.heap.size + 1 + 1 + 1 < w1.heap.size := by omega); (try have hz4 : w.heap.size + 1 + 1 + 1 + 1 < w1.heap.size := by omega); (try have hz5 : w.heap.size + 1 + 1 + 1 + 1 + 1 < w1.heap.size := by omega))
      refine bodyPost_ret (v := .tuple #[.agg #[.int .i64 (lowT (an * bd + bn * ad) (ad * bd)).1, .int .i64 (lowT (an * bd + bn * ad) (ad * bd)).2.1], .int .i64 (lowT (an * bd + bn * ad) (ad * bd)).2.2]) (by simp (maxDischargeDepth := 8) [results, Try.results78, go_sem, *]) rfl ?_
      exact ⟨rfl, by ((repeat' (first | exact Below.refl _ _ | assumption | refine Below.setCell ?_ ?_ _ | refine bdrewN ?_ _ | refine Below.drew ?_ | refine Below.alloc ?_ ?_ _ | refine bbehind ?_ (by assumption) ?_)); all_goals first | (simp; done) | (simp; omega) | omega)⟩
    · have hB' : (chk bn bd != 0) = true := by simpa using hB
      rw [twoT_b hA hB]
      have HB := Lib.hid hB; clear hB
      go_enter Try.func78, Try.ntmps78
      go_wp2_with (go_at_call 74; refine (firstError_two _ an ad bn bd _ (by simp) (by simp [go_sem]) (by simp [go_sem]) (by simp [go_sem]) (by simp [go_sem])).mono ?_; rintro e w1 ⟨rfl, hb1⟩; obtain ⟨hc1, hf1⟩ := bcell hb1; have hs1 := hb1.size; (try simp at hs1); (try have hz0 : w.heap.size < w1.heap.size := by omega); (try have hz1 : w.heap.size + 1 < w1.heap.size := by omega); (try have hz2 : w.heap.size + 1 + 1 < w1.heap.size := by omega); (try have hz3 : w.heap.size + 1 + 1 + 1 < w1.heap.size := by omega); (try have hz4 : w.heap.size + 1 + 1 + 1 + 1 < w1.heap.size := by omega); (try have hz5 : w.heap.size + 1 + 1 + 1 + 1 + 1 < w1.heap.size := by omega))
      refine bodyPost_ret (v := .tuple #[.agg #[.int .i64 0, .int .i64 0], .int .i64 (chk bn bd)]) (by simp (maxDischargeDepth := 8) [results, Try.results78, go_sem, *]) rfl ?_
      exact ⟨rfl, by ((repeat' (first | exact Below.refl _ _ | assumption | refine Below.setCell ?_ ?_ _ | refine bdrewN ?_ _ | refine Below.drew ?_ | refine Below.alloc ?_ ?_ _ | refine bbehind ?_ (by assumption) ?_)); all_goals first | (simp; done) | (simp; omega) | omega)⟩
  · have hA' : (chk an ad != 0) = true := by simpa using hA
    rw [twoT_a hA]
    have HA := Lib.hid hA; clear hA
    go_enter Try.func78, Try.ntmps78
    go_wp2_with (go_at_call 74; refine (firstError_two _ an ad bn bd _ (by simp) (by simp [go_sem]) (by simp [go_sem]) (by simp [go_sem]) (by simp [go_sem])).mono ?_; rintro e w1 ⟨rfl, hb1⟩; obtain ⟨hc1, hf1⟩ := bcell hb1; have hs1 := hb1.size; (try simp at hs1); (try have hz0 : w.heap.size < w1.heap.size := by omega); (try have hz1 : w.heap.size + 1 < w1.heap.size := by omega); (try have hz2 : w.heap.size + 1 + 1 < w1.heap.size := by omega); (try have hz3 : w.heap.size + 1 + 1 + 1 < w1.heap.size := by omega); (try have hz4 : w.heap.size + 1 + 1 + 1 + 1 < w1.heap.size := by omega); (try have hz5 : w.heap.size + 1 + 1 + 1 + 1 + 1 < w1.heap.size := by omega))
    refine bodyPost_ret (v := .tuple #[.agg #[.int .i64 0, .int .i64 0], .int .i64 (chk an ad)]) (by simp (maxDischargeDepth := 8) [results, Try.results78, go_sem, *]) rfl ?_
    exact ⟨rfl, by ((repeat' (first | exact Below.refl _ _ | assumption | refine Below.setCell ?_ ?_ _ | refine bdrewN ?_ _ | refine Below.drew ?_ | refine Below.alloc ?_ ?_ _ | refine bbehind ?_ (by assumption) ?_)); all_goals first | (simp; done) | (simp; omega) | omega)⟩

theorem bc_minus (b0 b1 b2 : Nat) (an ad bn bd : Int) (w : World) (fa : Fit an ad) (fb : Fit bn bd)
    (h1 : w.cell? ⟨b0, 0, none⟩ = some (.int .i64 1)) (h2 : w.cell? ⟨b1, 0, none⟩ = some (.int .i64 an)) (h3 : w.cell? ⟨b1, 1, none⟩ = some (.int .i64 ad))
    (h4 : w.cell? ⟨b2, 0, none⟩ = some (.int .i64 bn)) (h5 : w.cell? ⟨b2, 1, none⟩ = some (.int .i64 bd)) (k0 : b0 < w.heap.size) (k1 : b1 < w.heap.size) (k2 : b2 < w.heap.size) :
    Calls Try.prog 70 #[.func (.func 122) #[] #[.pointer (some ⟨b0, 0, none⟩), .pointer (some ⟨b1, 0, none⟩), .pointer (some ⟨b2, 0, none⟩)]] w fun e w' => e = .returned (.tuple #[.agg #[.int .i64 (lowT (an * bd - bn * ad) (ad * bd)).1, .int .i64 (lowT (an * bd - bn * ad) (ad * bd)).2.1], .int .i64 (lowT (an * bd - bn * ad) (ad * bd)).2.2]) ∧ Below w.heap.size w w' := by
  have hf : ∀ w1, Below w.heap.size w w1 → Calls Try.prog 122 #[.pointer (some ⟨b0, 0, none⟩), .pointer (some ⟨b1, 0, none⟩), .pointer (some ⟨b2, 0, none⟩)] w1 fun e w' => e = lowEnd (an * bd - bn * ad) (ad * bd) ∧ Below w1.heap.size w1 w' := fun w1 hw => by
    obtain ⟨hc, _⟩ := bcell hw
    have hz := hw.size
    exact clo_minus b0 b1 b2 an ad bn bd w1 fa fb ((hc _ _ k0).trans h1) ((hc _ _ k1).trans h2) ((hc _ _ k1).trans h3) ((hc _ _ k2).trans h4) ((hc _ _ k2).trans h5) (by omega) (by omega) (by omega)
  by_cases hok : lowOk (an * bd - bn * ad) (ad * bd) = true
  · rw [lowT_yes hok]
    exact bounded_ret _ _ _ _ w (fun w1 => by kernel_rfl) (fun w1 hw => low_yes hok (hf w1 hw))
  · rw [lowT_not hok]
    exact bounded_beyond _ _ w (fun w1 => by kernel_rfl) (fun w1 hw => low_not hok (hf w1 hw))

set_option maxHeartbeats 1600000 in
theorem minus_compute (an ad bn bd : Int) (w : World) :
    Calls Try.prog 78 #[.int .i64 1, .agg #[.int .i64 an, .int .i64 ad], .agg #[.int .i64 bn, .int .i64 bd]] w fun e w' =>
      e = .returned (.tuple #[.agg #[.int .i64 (twoT an ad bn bd (lowT (an * bd - bn * ad) (ad * bd))).1, .int .i64 (twoT an ad bn bd (lowT (an * bd - bn * ad) (ad * bd))).2.1], .int .i64 (twoT an ad bn bd (lowT (an * bd - bn * ad) (ad * bd))).2.2]) ∧ Below w.heap.size w w' := by
  have hmf : ∀ (fn : Fn) (first cap : Array Value) (w : World), (Instr.makeFunc fn first cap).run Try.prog w = .ok (.func fn first cap) w := fun _ _ _ _ => rfl
  by_cases hA : chk an ad = 0
  · by_cases hB : chk bn bd = 0
    · have fa := fit_of_chk hA
      have fb := fit_of_chk hB
      rw [twoT_r hA hB]
      go_enter Try.func78, Try.ntmps78
      go_wp2_with (go_at_call 74; refine (firstError_two _ an ad bn bd _ (by simp) (by simp [go_sem]) (by simp [go_sem]) (by simp [go_sem]) (by simp [go_sem])).mono ?_; rintro e w1 ⟨rfl, hb1⟩; obtain ⟨hc1, hf1⟩ := bcell hb1; have hs1 := hb1.size; (try simp at hs1); (try have hz0 : w.heap.size < w1.heap.size := by omega); (try have hz1 : w.heap.size + 1 < w1.heap.size := by omega); (try have hz2 : w.heap.size + 1 + 1 < w1.heap.size := by omega); (try have hz3 : w.heap.size + 1 + 1 + 1 < w1.heap.size := by omega); (try have hz4 : w.heap.size + 1 + 1 + 1 + 1 < w1.heap.size := by omega); (try have hz5 : w.heap.size + 1 + 1 + 1 + 1 + 1 < w1.heap.size := by omega))
      go_wp2_with (go_at_call 70; refine (bc_minus _ _ _ an ad bn bd _ fa fb (by simp (maxDischargeDepth := 8) [go_sem, *]) (by simp (maxDischargeDepth := 8) [go_sem, *]) (by simp (maxDischargeDepth := 8) [go_sem, *]) (by simp (maxDischargeDepth := 8) [go_sem, *]) (by simp (maxDischargeDepth := 8) [go_sem, *]) (by assumption) (by assumption) (by assumption)).mono ?_; rintro e w1 ⟨rfl, hb1⟩; obtain ⟨hc1, hf1⟩ := bcell hb1; have hs1 := hb1.size; (try simp at hs1); (try have hz0 : w.heap.size < w1.heap.size := by omega); (try have hz1 : w.heap.size + 1 < w1.heap.size := by omega); (try have hz2 : w.heap.size + 1 + 1 < w1.heap.size := by omega); (try have hz3 : w.heap.size + 1 + 1 + 1 < w1.heap.size := by omega); (try have hz4 : w.heap.size + 1 + 1 + 1 + 1 < w1.heap.size := by omega); (try have hz5 : w.heap.size + 1 + 1 + 1 + 1 + 1 < w1.heap.size := by omega))
      refine bodyPost_ret (v := .tuple #[.agg #[.int .i64 (lowT (an * bd - bn * ad) (ad * bd)).1, .int .i64 (lowT (an * bd - bn * ad) (ad * bd)).2.1], .int .i64 (lowT (an * bd - bn * ad) (ad * bd)).2.2]) (by simp (maxDischargeDepth := 8) [results, Try.results78, go_sem, *]) rfl ?_
      exact ⟨rfl, by ((repeat' (first | exact Below.refl _ _ | assumption | refine Below.setCell ?_ ?_ _ | refine bdrewN ?_ _ | refine Below.drew ?_ | refine Below.alloc ?_ ?_ _ | refine bbehind ?_ (by assumption) ?_)); all_goals first | (simp; done) | (simp; omega) | omega)⟩
    · have hB' : (chk bn bd != 0) = true := by simpa using hB
      rw [twoT_b hA hB]
      have HB := Lib.hid hB; clear hB
      go_enter Try.func78, Try.ntmps78
      go_wp2_with (go_at_call 74; refine (firstError_two _ an ad bn bd _ (by simp) (by simp [go_sem]) (by simp [go_sem]) (by simp [go_sem]) (by simp [go_sem])).mono ?_; rintro e w1 ⟨rfl, hb1⟩; obtain ⟨hc1, hf1⟩ := bcell hb1; have hs1 := hb1.size; (try simp at hs1); (try have hz0 : w.heap.size < w1.heap.size := by omega); (try have hz1 : w.heap.size + 1 < w1.heap.size := by omega); (try have hz2 : w.heap.size + 1 + 1 < w1.heap.size := by omega); (try have hz3 : w.heap.size + 1 + 1 + 1 < w1.heap.size := by omega); (try have hz4 : w.heap.size + 1 + 1 + 1 + 1 < w1.heap.size := by omega); (try have hz5 : w.heap.size + 1 + 1 + 1 + 1 + 1 < w1.heap.size := by omega))
      refine bodyPost_ret (v := .tuple #[.agg #[.int .i64 0, .int .i64 0], .int .i64 (chk bn bd)]) (by simp (maxDischargeDepth := 8) [results, Try.results78, go_sem, *]) rfl ?_
      exact ⟨rfl, by ((repeat' (first | exact Below.refl _ _ | assumption | refine Below.setCell ?_ ?_ _ | refine bdrewN ?_ _ | refine Below.drew ?_ | refine Below.alloc ?_ ?_ _ | refine bbehind ?_ (by assumption) ?_)); all_goals first | (simp; done) | (simp; omega) | omega)⟩
  · have hA' : (chk an ad != 0) = true := by simpa using hA
    rw [twoT_a hA]
    have HA := Lib.hid hA; clear hA
    go_enter Try.func78, Try.ntmps78
    go_wp2_with (go_at_call 74; refine (firstError_two _ an ad bn bd _ (by simp) (by simp [go_sem]) (by simp [go_sem]) (by simp [go_sem]) (by simp [go_sem])).mono ?_; rintro e w1 ⟨rfl, hb1⟩; obtain ⟨hc1, hf1⟩ := bcell hb1; have hs1 := hb1.size; (try simp at hs1); (try have hz0 : w.heap.size < w1.heap.size := by omega); (try have hz1 : w.heap.size + 1 < w1.heap.size := by omega); (try have hz2 : w.heap.size + 1 + 1 < w1.heap.size := by omega); (try have hz3 : w.heap.size + 1 + 1 + 1 < w1.heap.size := by omega); (try have hz4 : w.heap.size + 1 + 1 + 1 + 1 < w1.heap.size := by omega); (try have hz5 : w.heap.size + 1 + 1 + 1 + 1 + 1 < w1.heap.size := by omega))
    refine bodyPost_ret (v := .tuple #[.agg #[.int .i64 0, .int .i64 0], .int .i64 (chk an ad)]) (by simp (maxDischargeDepth := 8) [results, Try.results78, go_sem, *]) rfl ?_
    exact ⟨rfl, by ((repeat' (first | exact Below.refl _ _ | assumption | refine Below.setCell ?_ ?_ _ | refine bdrewN ?_ _ | refine Below.drew ?_ | refine Below.alloc ?_ ?_ _ | refine bbehind ?_ (by assumption) ?_)); all_goals first | (simp; done) | (simp; omega) | omega)⟩

theorem bc_times (b0 b1 b2 : Nat) (an ad bn bd : Int) (w : World) (fa : Fit an ad) (fb : Fit bn bd)
    (h1 : w.cell? ⟨b0, 0, none⟩ = some (.int .i64 2)) (h2 : w.cell? ⟨b1, 0, none⟩ = some (.int .i64 an)) (h3 : w.cell? ⟨b1, 1, none⟩ = some (.int .i64 ad))
    (h4 : w.cell? ⟨b2, 0, none⟩ = some (.int .i64 bn)) (h5 : w.cell? ⟨b2, 1, none⟩ = some (.int .i64 bd)) (k0 : b0 < w.heap.size) (k1 : b1 < w.heap.size) (k2 : b2 < w.heap.size) :
    Calls Try.prog 70 #[.func (.func 122) #[] #[.pointer (some ⟨b0, 0, none⟩), .pointer (some ⟨b1, 0, none⟩), .pointer (some ⟨b2, 0, none⟩)]] w fun e w' => e = .returned (.tuple #[.agg #[.int .i64 (lowT (an * bn) (ad * bd)).1, .int .i64 (lowT (an * bn) (ad * bd)).2.1], .int .i64 (lowT (an * bn) (ad * bd)).2.2]) ∧ Below w.heap.size w w' := by
  have hf : ∀ w1, Below w.heap.size w w1 → Calls Try.prog 122 #[.pointer (some ⟨b0, 0, none⟩), .pointer (some ⟨b1, 0, none⟩), .pointer (some ⟨b2, 0, none⟩)] w1 fun e w' => e = lowEnd (an * bn) (ad * bd) ∧ Below w1.heap.size w1 w' := fun w1 hw => by
    obtain ⟨hc, _⟩ := bcell hw
    have hz := hw.size
    exact clo_times b0 b1 b2 an ad bn bd w1 fa fb ((hc _ _ k0).trans h1) ((hc _ _ k1).trans h2) ((hc _ _ k1).trans h3) ((hc _ _ k2).trans h4) ((hc _ _ k2).trans h5) (by omega) (by omega) (by omega)
  by_cases hok : lowOk (an * bn) (ad * bd) = true
  · rw [lowT_yes hok]
    exact bounded_ret _ _ _ _ w (fun w1 => by kernel_rfl) (fun w1 hw => low_yes hok (hf w1 hw))
  · rw [lowT_not hok]
    exact bounded_beyond _ _ w (fun w1 => by kernel_rfl) (fun w1 hw => low_not hok (hf w1 hw))

set_option maxHeartbeats 1600000 in
theorem times_compute (an ad bn bd : Int) (w : World) :
    Calls Try.prog 78 #[.int .i64 2, .agg #[.int .i64 an, .int .i64 ad], .agg #[.int .i64 bn, .int .i64 bd]] w fun e w' =>
      e = .returned (.tuple #[.agg #[.int .i64 (twoT an ad bn bd (lowT (an * bn) (ad * bd))).1, .int .i64 (twoT an ad bn bd (lowT (an * bn) (ad * bd))).2.1], .int .i64 (twoT an ad bn bd (lowT (an * bn) (ad * bd))).2.2]) ∧ Below w.heap.size w w' := by
  have hmf : ∀ (fn : Fn) (first cap : Array Value) (w : World), (Instr.makeFunc fn first cap).run Try.prog w = .ok (.func fn first cap) w := fun _ _ _ _ => rfl
  by_cases hA : chk an ad = 0
  · by_cases hB : chk bn bd = 0
    · have fa := fit_of_chk hA
      have fb := fit_of_chk hB
      rw [twoT_r hA hB]
      go_enter Try.func78, Try.ntmps78
      go_wp2_with (go_at_call 74; refine (firstError_two _ an ad bn bd _ (by simp) (by simp [go_sem]) (by simp [go_sem]) (by simp [go_sem]) (by simp [go_sem])).mono ?_; rintro e w1 ⟨rfl, hb1⟩; obtain ⟨hc1, hf1⟩ := bcell hb1; have hs1 := hb1.size; (try simp at hs1); (try have hz0 : w.heap.size < w1.heap.size := by omega); (try have hz1 : w.heap.size + 1 < w1.heap.size := by omega); (try have hz2 : w.heap.size + 1 + 1 < w1.heap.size := by omega); (try have hz3 : w.heap.size + 1 + 1 + 1 < w1.heap.size := by omega); (try have hz4 : w.heap.size + 1 + 1 + 1 + 1 < w1.heap.size := by omega); (try have hz5 : w.heap.size + 1 + 1 + 1 + 1 + 1 < w1.heap.size := by omega))
      go_wp2_with (go_at_call 70; refine (bc_times _ _ _ an ad bn bd _ fa fb (by simp (maxDischargeDepth := 8) [go_sem, *]) (by simp (maxDischargeDepth := 8) [go_sem, *]) (by simp (maxDischargeDepth := 8) [go_sem, *]) (by simp (maxDischargeDepth := 8) [go_sem, *]) (by simp (maxDischargeDepth := 8) [go_sem, *]) (by assumption) (by assumption) (by assumption)).mono ?_; rintro e w1 ⟨rfl, hb1⟩; obtain ⟨hc1, hf1⟩ := bcell hb1; have hs1 := hb1.size; (try simp at hs1); (try have hz0 : w.heap.size < w1.heap.size := by omega); (try have hz1 : w.heap.size + 1 < w1.heap.size := by omega); (try have hz2 : w.heap.size + 1 + 1 < w1.heap.size := by omega); (try have hz3 : w.heap.size + 1 + 1 + 1 < w1.heap.size := by omega); (try have hz4 : w.heap.size + 1 + 1 + 1 + 1 < w1.heap.size := by omega); (try have hz5 : w.heap.size + 1 + 1 + 1 + 1 + 1 < w1.heap.size := by omega))
      refine bodyPost_ret (v := .tuple #[.agg #[.int .i64 (lowT (an * bn) (ad * bd)).1, .int .i64 (lowT (an * bn) (ad * bd)).2.1], .int .i64 (lowT (an * bn) (ad * bd)).2.2]) (by simp (maxDischargeDepth := 8) [results, Try.results78, go_sem, *]) rfl ?_
      exact ⟨rfl, by ((repeat' (first | exact Below.refl _ _ | assumption | refine Below.setCell ?_ ?_ _ | refine bdrewN ?_ _ | refine Below.drew ?_ | refine Below.alloc ?_ ?_ _ | refine bbehind ?_ (by assumption) ?_)); all_goals first | (simp; done) | (simp; omega) | omega)⟩
    · have hB' : (chk bn bd != 0) = true := by simpa using hB
      rw [twoT_b hA hB]
      have HB := Lib.hid hB; clear hB
      go_enter Try.func78, Try.ntmps78
      go_wp2_with (go_at_call 74; refine (firstError_two _ an ad bn bd _ (by simp) (by simp [go_sem]) (by simp [go_sem]) (by simp [go_sem]) (by simp [go_sem])).mono ?_; rintro e w1 ⟨rfl, hb1⟩; obtain ⟨hc1, hf1⟩ := bcell hb1; have hs1 := hb1.size; (try simp at hs1); (try have hz0 : w.heap.size < w1.heap.size := by omega); (try have hz1 : w.heap.size + 1 < w1.heap.size := by omega); (try have hz2 : w.heap.size + 1 + 1 < w1.heap.size := by omega); (try have hz3 : w.heap.size + 1 + 1 + 1 < w1.heap.size := by omega); (try have hz4 : w.heap.size + 1 + 1 + 1 + 1 < w1.heap.size := by omega); (try have hz5 : w.heap.size + 1 + 1 + 1 + 1 + 1 < w1.heap.size := by omega))
      refine bodyPost_ret (v := .tuple #[.agg #[.int .i64 0, .int .i64 0], .int .i64 (chk bn bd)]) (by simp (maxDischargeDepth := 8) [results, Try.results78, go_sem, *]) rfl ?_
      exact ⟨rfl, by ((repeat' (first | exact Below.refl _ _ | assumption | refine Below.setCell ?_ ?_ _ | refine bdrewN ?_ _ | refine Below.drew ?_ | refine Below.alloc ?_ ?_ _ | refine bbehind ?_ (by assumption) ?_)); all_goals first | (simp; done) | (simp; omega) | omega)⟩
  · have hA' : (chk an ad != 0) = true := by simpa using hA
    rw [twoT_a hA]
    have HA := Lib.hid hA; clear hA
    go_enter Try.func78, Try.ntmps78
    go_wp2_with (go_at_call 74; refine (firstError_two _ an ad bn bd _ (by simp) (by simp [go_sem]) (by simp [go_sem]) (by simp [go_sem]) (by simp [go_sem])).mono ?_; rintro e w1 ⟨rfl, hb1⟩; obtain ⟨hc1, hf1⟩ := bcell hb1; have hs1 := hb1.size; (try simp at hs1); (try have hz0 : w.heap.size < w1.heap.size := by omega); (try have hz1 : w.heap.size + 1 < w1.heap.size := by omega); (try have hz2 : w.heap.size + 1 + 1 < w1.heap.size := by omega); (try have hz3 : w.heap.size + 1 + 1 + 1 < w1.heap.size := by omega); (try have hz4 : w.heap.size + 1 + 1 + 1 + 1 < w1.heap.size := by omega); (try have hz5 : w.heap.size + 1 + 1 + 1 + 1 + 1 < w1.heap.size := by omega))
    refine bodyPost_ret (v := .tuple #[.agg #[.int .i64 0, .int .i64 0], .int .i64 (chk an ad)]) (by simp (maxDischargeDepth := 8) [results, Try.results78, go_sem, *]) rfl ?_
    exact ⟨rfl, by ((repeat' (first | exact Below.refl _ _ | assumption | refine Below.setCell ?_ ?_ _ | refine bdrewN ?_ _ | refine Below.drew ?_ | refine Below.alloc ?_ ?_ _ | refine bbehind ?_ (by assumption) ?_)); all_goals first | (simp; done) | (simp; omega) | omega)⟩

theorem bc_over (b0 b1 b2 : Nat) (an ad bn bd : Int) (w : World) (fa : Fit an ad) (fb : Fit bn bd) (h0 : ¬ bn = 0)
    (h1 : w.cell? ⟨b0, 0, none⟩ = some (.int .i64 3)) (h2 : w.cell? ⟨b1, 0, none⟩ = some (.int .i64 an)) (h3 : w.cell? ⟨b1, 1, none⟩ = some (.int .i64 ad))
    (h4 : w.cell? ⟨b2, 0, none⟩ = some (.int .i64 bn)) (h5 : w.cell? ⟨b2, 1, none⟩ = some (.int .i64 bd)) (k0 : b0 < w.heap.size) (k1 : b1 < w.heap.size) (k2 : b2 < w.heap.size) :
    Calls Try.prog 70 #[.func (.func 122) #[] #[.pointer (some ⟨b0, 0, none⟩), .pointer (some ⟨b1, 0, none⟩), .pointer (some ⟨b2, 0, none⟩)]] w fun e w' => e = .returned (.tuple #[.agg #[.int .i64 (lowT (an * bd) (ad * bn)).1, .int .i64 (lowT (an * bd) (ad * bn)).2.1], .int .i64 (lowT (an * bd) (ad * bn)).2.2]) ∧ Below w.heap.size w w' := by
  have hf : ∀ w1, Below w.heap.size w w1 → Calls Try.prog 122 #[.pointer (some ⟨b0, 0, none⟩), .pointer (some ⟨b1, 0, none⟩), .pointer (some ⟨b2, 0, none⟩)] w1 fun e w' => e = lowEnd (an * bd) (ad * bn) ∧ Below w1.heap.size w1 w' := fun w1 hw => by
    obtain ⟨hc, _⟩ := bcell hw
    have hz := hw.size
    exact clo_over b0 b1 b2 an ad bn bd w1 fa fb h0 ((hc _ _ k0).trans h1) ((hc _ _ k1).trans h2) ((hc _ _ k1).trans h3) ((hc _ _ k2).trans h4) ((hc _ _ k2).trans h5) (by omega) (by omega) (by omega)
  by_cases hok : lowOk (an * bd) (ad * bn) = true
  · rw [lowT_yes hok]
    exact bounded_ret _ _ _ _ w (fun w1 => by kernel_rfl) (fun w1 hw => low_yes hok (hf w1 hw))
  · rw [lowT_not hok]
    exact bounded_beyond _ _ w (fun w1 => by kernel_rfl) (fun w1 hw => low_not hok (hf w1 hw))

set_option maxHeartbeats 1600000 in
theorem over_compute (an ad bn bd : Int) (w : World) (h0 : ¬ bn = 0) :
    Calls Try.prog 78 #[.int .i64 3, .agg #[.int .i64 an, .int .i64 ad], .agg #[.int .i64 bn, .int .i64 bd]] w fun e w' =>
      e = .returned (.tuple #[.agg #[.int .i64 (twoT an ad bn bd (lowT (an * bd) (ad * bn))).1, .int .i64 (twoT an ad bn bd (lowT (an * bd) (ad * bn))).2.1], .int .i64 (twoT an ad bn bd (lowT (an * bd) (ad * bn))).2.2]) ∧ Below w.heap.size w w' := by
  have hmf : ∀ (fn : Fn) (first cap : Array Value) (w : World), (Instr.makeFunc fn first cap).run Try.prog w = .ok (.func fn first cap) w := fun _ _ _ _ => rfl
  by_cases hA : chk an ad = 0
  · by_cases hB : chk bn bd = 0
    · have fa := fit_of_chk hA
      have fb := fit_of_chk hB
      rw [twoT_r hA hB]
      go_enter Try.func78, Try.ntmps78
      go_wp2_with (go_at_call 74; refine (firstError_two _ an ad bn bd _ (by simp) (by simp [go_sem]) (by simp [go_sem]) (by simp [go_sem]) (by simp [go_sem])).mono ?_; rintro e w1 ⟨rfl, hb1⟩; obtain ⟨hc1, hf1⟩ := bcell hb1; have hs1 := hb1.size; (try simp at hs1); (try have hz0 : w.heap.size < w1.heap.size := by omega); (try have hz1 : w.heap.size + 1 < w1.heap.size := by omega); (try have hz2 : w.heap.size + 1 + 1 < w1.heap.size := by omega); (try have hz3 : w.heap.size + 1 + 1 + 1 < w1.heap.size := by omega); (try have hz4 : w.heap.size + 1 + 1 + 1 + 1 < w1.heap.size := by omega); (try have hz5 : w.heap.size + 1 + 1 + 1 + 1 + 1 < w1.heap.size := by omega))
      go_wp2_with (go_at_call 70; refine (bc_over _ _ _ an ad bn bd _ fa fb h0 (by simp (maxDischargeDepth := 8) [go_sem, *]) (by simp (maxDischargeDepth := 8) [go_sem, *]) (by simp (maxDischargeDepth := 8) [go_sem, *]) (by simp (maxDischargeDepth := 8) [go_sem, *]) (by simp (maxDischargeDepth := 8) [go_sem, *]) (by assumption) (by assumption) (by assumption)).mono ?_; rintro e w1 ⟨rfl, hb1⟩; obtain ⟨hc1, hf1⟩ := bcell hb1; have hs1 := hb1.size; (try simp at hs1); (try have hz0 : w.heap.size < w1.heap.size := by omega); (try have hz1 : w.heap.size + 1 < w1.heap.size := by omega); (try have hz2 : w.heap.size + 1 + 1 < w1.heap.size := by omega); (try have hz3 : w.heap.size + 1 + 1 + 1 < w1.heap.size := by omega); (try have hz4 : w.heap.size + 1 + 1 + 1 + 1 < w1.heap.size := by omega); (try have hz5 : w.heap.size + 1 + 1 + 1 + 1 + 1 < w1.heap.size := by omega))
      refine bodyPost_ret (v := .tuple #[.agg #[.int .i64 (lowT (an * bd) (ad * bn)).1, .int .i64 (lowT (an * bd) (ad * bn)).2.1], .int .i64 (lowT (an * bd) (ad * bn)).2.2]) (by simp (maxDischargeDepth := 8) [results, Try.results78, go_sem, *]) rfl ?_
      exact ⟨rfl, by ((repeat' (first | exact Below.refl _ _ | assumption | refine Below.setCell ?_ ?_ _ | refine bdrewN ?_ _ | refine Below.drew ?_ | refine Below.alloc ?_ ?_ _ | refine bbehind ?_ (by assumption) ?_)); all_goals first | (simp; done) | (simp; omega) | omega)⟩
    · have hB' : (chk bn bd != 0) = true := by simpa using hB
      rw [twoT_b hA hB]
      have HB := Lib.hid hB; clear hB
      go_enter Try.func78, Try.ntmps78
      go_wp2_with (go_at_call 74; refine (firstError_two _ an ad bn bd _ (by simp) (by simp [go_sem]) (by simp [go_sem]) (by simp [go_sem]) (by simp [go_sem])).mono ?_; rintro e w1 ⟨rfl, hb1⟩; obtain ⟨hc1, hf1⟩ := bcell hb1; have hs1 := hb1.size; (try simp at hs1); (try have hz0 : w.heap.size < w1.heap.size := by omega); (try have hz1 : w.heap.size + 1 < w1.heap.size := by omega); (try have hz2 : w.heap.size + 1 + 1 < w1.heap.size := by omega); (try have hz3 : w.heap.size + 1 + 1 + 1 < w1.heap.size := by omega); (try have hz4 : w.heap.size + 1 + 1 + 1 + 1 < w1.heap.size := by omega); (try have hz5 : w.heap.size + 1 + 1 + 1 + 1 + 1 < w1.heap.size := by omega))
      refine bodyPost_ret (v := .tuple #[.agg #[.int .i64 0, .int .i64 0], .int .i64 (chk bn bd)]) (by simp (maxDischargeDepth := 8) [results, Try.results78, go_sem, *]) rfl ?_
      exact ⟨rfl, by ((repeat' (first | exact Below.refl _ _ | assumption | refine Below.setCell ?_ ?_ _ | refine bdrewN ?_ _ | refine Below.drew ?_ | refine Below.alloc ?_ ?_ _ | refine bbehind ?_ (by assumption) ?_)); all_goals first | (simp; done) | (simp; omega) | omega)⟩
  · have hA' : (chk an ad != 0) = true := by simpa using hA
    rw [twoT_a hA]
    have HA := Lib.hid hA; clear hA
    go_enter Try.func78, Try.ntmps78
    go_wp2_with (go_at_call 74; refine (firstError_two _ an ad bn bd _ (by simp) (by simp [go_sem]) (by simp [go_sem]) (by simp [go_sem]) (by simp [go_sem])).mono ?_; rintro e w1 ⟨rfl, hb1⟩; obtain ⟨hc1, hf1⟩ := bcell hb1; have hs1 := hb1.size; (try simp at hs1); (try have hz0 : w.heap.size < w1.heap.size := by omega); (try have hz1 : w.heap.size + 1 < w1.heap.size := by omega); (try have hz2 : w.heap.size + 1 + 1 < w1.heap.size := by omega); (try have hz3 : w.heap.size + 1 + 1 + 1 < w1.heap.size := by omega); (try have hz4 : w.heap.size + 1 + 1 + 1 + 1 < w1.heap.size := by omega); (try have hz5 : w.heap.size + 1 + 1 + 1 + 1 + 1 < w1.heap.size := by omega))
    refine bodyPost_ret (v := .tuple #[.agg #[.int .i64 0, .int .i64 0], .int .i64 (chk an ad)]) (by simp (maxDischargeDepth := 8) [results, Try.results78, go_sem, *]) rfl ?_
    exact ⟨rfl, by ((repeat' (first | exact Below.refl _ _ | assumption | refine Below.setCell ?_ ?_ _ | refine bdrewN ?_ _ | refine Below.drew ?_ | refine Below.alloc ?_ ?_ _ | refine bbehind ?_ (by assumption) ?_)); all_goals first | (simp; done) | (simp; omega) | omega)⟩
end Go.Proofs.Ytgefidffhdanhaa
