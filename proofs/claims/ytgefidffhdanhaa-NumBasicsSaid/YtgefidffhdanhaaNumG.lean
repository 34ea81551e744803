import Derived.Test.YtgefidffhdanhaaNumF
namespace Go.Proofs.Ytgefidffhdanhaa
open Go.RowKit Go.BigFrame

def addT (an ad bn bd : Int) : Int × Int × Int := twoT an ad bn bd (lowT (an * bd + bn * ad) (ad * bd))
def subT (an ad bn bd : Int) : Int × Int × Int := twoT an ad bn bd (lowT (an * bd - bn * ad) (ad * bd))
def mulT (an ad bn bd : Int) : Int × Int × Int := twoT an ad bn bd (lowT (an * bn) (ad * bd))
def divT (an ad bn bd : Int) : Int × Int × Int := twoT an ad bn bd (if bn = 0 then (0, 0, 10) else lowT (an * bd) (ad * bn))

set_option maxHeartbeats 1000000 in
theorem add_any (an ad bn bd : Int) (w : World) :
    Calls Try.prog 27 #[.agg #[.int .i64 an, .int .i64 ad], .agg #[.int .i64 bn, .int .i64 bd]] w fun e w' => e = .returned (.tuple #[.agg #[.int .i64 (addT an ad bn bd).1, .int .i64 (addT an ad bn bd).2.1], .int .i64 (addT an ad bn bd).2.2]) ∧ Below w.heap.size w w' := by
  unfold addT
  go_enter Try.func27, Try.ntmps27
  go_wp2_with (go_at_call 78; refine (plus_compute _ _ _ _ _).mono ?_; rintro e w1 ⟨rfl, hb1⟩; obtain ⟨hc1, hf1⟩ := bcell hb1; have hs1 := hb1.size; (try simp at hs1); (try have hz0 : w.heap.size < w1.heap.size := by omega); (try have hz1 : w.heap.size + 1 < w1.heap.size := by omega); (try have hz2 : w.heap.size + 1 + 1 < w1.heap.size := by omega); (try have hz3 : w.heap.size + 1 + 1 + 1 < w1.heap.size := by omega); (try have hz4 : w.heap.size + 1 + 1 + 1 + 1 < w1.heap.size := by omega); (try have hz5 : w.heap.size + 1 + 1 + 1 + 1 + 1 < w1.heap.size := by omega))
  refine bodyPost_ret (v := .tuple #[.agg #[.int .i64 (twoT an ad bn bd (lowT (an * bd + bn * ad) (ad * bd))).1, .int .i64 (twoT an ad bn bd (lowT (an * bd + bn * ad) (ad * bd))).2.1], .int .i64 (twoT an ad bn bd (lowT (an * bd + bn * ad) (ad * bd))).2.2]) (by simp (maxDischargeDepth := 8) [results, Try.results27, go_sem, *]) rfl ?_
  exact ⟨rfl, by ((repeat' (first | exact Below.refl _ _ | assumption | refine Below.setCell ?_ ?_ _ | refine bdrewN ?_ _ | refine Below.drew ?_ | refine Below.alloc ?_ ?_ _ | refine bbehind ?_ (by assumption) ?_)); all_goals first | (simp; done) | (simp; omega) | omega)⟩

set_option maxHeartbeats 1000000 in
theorem sub_any (an ad bn bd : Int) (w : World) :
    Calls Try.prog 29 #[.agg #[.int .i64 an, .int .i64 ad], .agg #[.int .i64 bn, .int .i64 bd]] w fun e w' => e = .returned (.tuple #[.agg #[.int .i64 (subT an ad bn bd).1, .int .i64 (subT an ad bn bd).2.1], .int .i64 (subT an ad bn bd).2.2]) ∧ Below w.heap.size w w' := by
  unfold subT
  go_enter Try.func29, Try.ntmps29
  go_wp2_with (go_at_call 78; refine (minus_compute _ _ _ _ _).mono ?_; rintro e w1 ⟨rfl, hb1⟩; obtain ⟨hc1, hf1⟩ := bcell hb1; have hs1 := hb1.size; (try simp at hs1); (try have hz0 : w.heap.size < w1.heap.size := by omega); (try have hz1 : w.heap.size + 1 < w1.heap.size := by omega); (try have hz2 : w.heap.size + 1 + 1 < w1.heap.size := by omega); (try have hz3 : w.heap.size + 1 + 1 + 1 < w1.heap.size := by omega); (try have hz4 : w.heap.size + 1 + 1 + 1 + 1 < w1.heap.size := by omega); (try have hz5 : w.heap.size + 1 + 1 + 1 + 1 + 1 < w1.heap.size := by omega))
  refine bodyPost_ret (v := .tuple #[.agg #[.int .i64 (twoT an ad bn bd (lowT (an * bd - bn * ad) (ad * bd))).1, .int .i64 (twoT an ad bn bd (lowT (an * bd - bn * ad) (ad * bd))).2.1], .int .i64 (twoT an ad bn bd (lowT (an * bd - bn * ad) (ad * bd))).2.2]) (by simp (maxDischargeDepth := 8) [results, Try.results29, go_sem, *]) rfl ?_
  exact ⟨rfl, by ((repeat' (first | exact Below.refl _ _ | assumption | refine Below.setCell ?_ ?_ _ | refine bdrewN ?_ _ | refine Below.drew ?_ | refine Below.alloc ?_ ?_ _ | refine bbehind ?_ (by assumption) ?_)); all_goals first | (simp; done) | (simp; omega) | omega)⟩

set_option maxHeartbeats 1000000 in
theorem mul_any (an ad bn bd : Int) (w : World) :
    Calls Try.prog 31 #[.agg #[.int .i64 an, .int .i64 ad], .agg #[.int .i64 bn, .int .i64 bd]] w fun e w' => e = .returned (.tuple #[.agg #[.int .i64 (mulT an ad bn bd).1, .int .i64 (mulT an ad bn bd).2.1], .int .i64 (mulT an ad bn bd).2.2]) ∧ Below w.heap.size w w' := by
  unfold mulT
  go_enter Try.func31, Try.ntmps31
  go_wp2_with (go_at_call 78; refine (times_compute _ _ _ _ _).mono ?_; rintro e w1 ⟨rfl, hb1⟩; obtain ⟨hc1, hf1⟩ := bcell hb1; have hs1 := hb1.size; (try simp at hs1); (try have hz0 : w.heap.size < w1.heap.size := by omega); (try have hz1 : w.heap.size + 1 < w1.heap.size := by omega); (try have hz2 : w.heap.size + 1 + 1 < w1.heap.size := by omega); (try have hz3 : w.heap.size + 1 + 1 + 1 < w1.heap.size := by omega); (try have hz4 : w.heap.size + 1 + 1 + 1 + 1 < w1.heap.size := by omega); (try have hz5 : w.heap.size + 1 + 1 + 1 + 1 + 1 < w1.heap.size := by omega))
  refine bodyPost_ret (v := .tuple #[.agg #[.int .i64 (twoT an ad bn bd (lowT (an * bn) (ad * bd))).1, .int .i64 (twoT an ad bn bd (lowT (an * bn) (ad * bd))).2.1], .int .i64 (twoT an ad bn bd (lowT (an * bn) (ad * bd))).2.2]) (by simp (maxDischargeDepth := 8) [results, Try.results31, go_sem, *]) rfl ?_
  exact ⟨rfl, by ((repeat' (first | exact Below.refl _ _ | assumption | refine Below.setCell ?_ ?_ _ | refine bdrewN ?_ _ | refine Below.drew ?_ | refine Below.alloc ?_ ?_ _ | refine bbehind ?_ (by assumption) ?_)); all_goals first | (simp; done) | (simp; omega) | omega)⟩

theorem over_ok (an ad bn bd : Int) (w : World) (hA : chk an ad = 0) (hB : chk bn bd = 0) (h0 : ¬ bn = 0) :
    Calls Try.prog 78 #[.int .i64 3, .agg #[.int .i64 an, .int .i64 ad], .agg #[.int .i64 bn, .int .i64 bd]] w fun e w' =>
      e = .returned (.tuple #[.agg #[.int .i64 (lowT (an * bd) (ad * bn)).1, .int .i64 (lowT (an * bd) (ad * bn)).2.1], .int .i64 (lowT (an * bd) (ad * bn)).2.2]) ∧ Below w.heap.size w w' := by
  have h := over_compute an ad bn bd w h0
  rw [twoT_r hA hB] at h
  exact h

set_option maxHeartbeats 1600000 in
theorem div_any (an ad bn bd : Int) (w : World) :
    Calls Try.prog 33 #[.agg #[.int .i64 an, .int .i64 ad], .agg #[.int .i64 bn, .int .i64 bd]] w fun e w' => e = .returned (.tuple #[.agg #[.int .i64 (divT an ad bn bd).1, .int .i64 (divT an ad bn bd).2.1], .int .i64 (divT an ad bn bd).2.2]) ∧ Below w.heap.size w w' := by
  unfold divT
  by_cases hA : chk an ad = 0
  · by_cases hB : chk bn bd = 0
    · have HA := Lib.hid hA
      have HB := Lib.hid hB
      by_cases h0 : bn = 0
      · subst h0
        rw [twoT_r hA hB, if_pos rfl]
        go_enter Try.func33, Try.ntmps33
        go_wp2_with (go_at_call 74; refine (firstError_two _ an ad 0 bd _ (by simp) (by simp [go_sem]) (by simp [go_sem]) (by simp [go_sem]) (by simp [go_sem])).mono ?_; rintro e w1 ⟨rfl, hb1⟩; obtain ⟨hc1, hf1⟩ := bcell hb1; have hs1 := hb1.size; (try simp at hs1); (try have hz0 : w.heap.size < w1.heap.size := by omega); (try have hz1 : w.heap.size + 1 < w1.heap.size := by omega); (try have hz2 : w.heap.size + 1 + 1 < w1.heap.size := by omega); (try have hz3 : w.heap.size + 1 + 1 + 1 < w1.heap.size := by omega); (try have hz4 : w.heap.size + 1 + 1 + 1 + 1 < w1.heap.size := by omega); (try have hz5 : w.heap.size + 1 + 1 + 1 + 1 + 1 < w1.heap.size := by omega))
        refine bodyPost_ret (v := .tuple #[.agg #[.int .i64 0, .int .i64 0], .int .i64 10]) (by simp (maxDischargeDepth := 8) [results, Try.results33, go_sem, *]) rfl ?_
        exact ⟨rfl, by ((repeat' (first | exact Below.refl _ _ | assumption | refine Below.setCell ?_ ?_ _ | refine bdrewN ?_ _ | refine Below.drew ?_ | refine Below.alloc ?_ ?_ _ | refine bbehind ?_ (by assumption) ?_)); all_goals first | (simp; done) | (simp; omega) | omega)⟩
      · have h0' : (bn == 0) = false := by simpa using h0
        rw [twoT_r hA hB, if_neg h0]
        go_enter Try.func33, Try.ntmps33
        go_wp2_with (first | (go_at_call 74; refine (firstError_two _ an ad bn bd _ (by simp) (by simp [go_sem]) (by simp [go_sem]) (by simp [go_sem]) (by simp [go_sem])).mono ?_; rintro e w1 ⟨rfl, hb1⟩; obtain ⟨hc1, hf1⟩ := bcell hb1; have hs1 := hb1.size; (try simp at hs1); (try have hz0 : w.heap.size < w1.heap.size := by omega); (try have hz1 : w.heap.size + 1 < w1.heap.size := by omega); (try have hz2 : w.heap.size + 1 + 1 < w1.heap.size := by omega); (try have hz3 : w.heap.size + 1 + 1 + 1 < w1.heap.size := by omega); (try have hz4 : w.heap.size + 1 + 1 + 1 + 1 < w1.heap.size := by omega); (try have hz5 : w.heap.size + 1 + 1 + 1 + 1 + 1 < w1.heap.size := by omega)) | (go_at_call 78; refine (over_ok an ad bn bd _ HA.out HB.out h0).mono ?_; rintro e w1 ⟨rfl, hb1⟩; obtain ⟨hc1, hf1⟩ := bcell hb1; have hs1 := hb1.size; (try simp at hs1); (try have hz0 : w.heap.size < w1.heap.size := by omega); (try have hz1 : w.heap.size + 1 < w1.heap.size := by omega); (try have hz2 : w.heap.size + 1 + 1 < w1.heap.size := by omega); (try have hz3 : w.heap.size + 1 + 1 + 1 < w1.heap.size := by omega); (try have hz4 : w.heap.size + 1 + 1 + 1 + 1 < w1.heap.size := by omega); (try have hz5 : w.heap.size + 1 + 1 + 1 + 1 + 1 < w1.heap.size := by omega)))
        refine bodyPost_ret (v := .tuple #[.agg #[.int .i64 (lowT (an * bd) (ad * bn)).1, .int .i64 (lowT (an * bd) (ad * bn)).2.1], .int .i64 (lowT (an * bd) (ad * bn)).2.2]) (by simp (maxDischargeDepth := 8) [results, Try.results33, go_sem, *]) rfl ?_
        exact ⟨rfl, by ((repeat' (first | exact Below.refl _ _ | assumption | refine Below.setCell ?_ ?_ _ | refine bdrewN ?_ _ | refine Below.drew ?_ | refine Below.alloc ?_ ?_ _ | refine bbehind ?_ (by assumption) ?_)); all_goals first | (simp; done) | (simp; omega) | omega)⟩
    · have hB' : (chk bn bd != 0) = true := by simpa using hB
      rw [twoT_b hA hB]
      have HB := Lib.hid hB; clear hB
      go_enter Try.func33, Try.ntmps33
      go_wp2_with (go_at_call 74; refine (firstError_two _ an ad bn bd _ (by simp) (by simp [go_sem]) (by simp [go_sem]) (by simp [go_sem]) (by simp [go_sem])).mono ?_; rintro e w1 ⟨rfl, hb1⟩; obtain ⟨hc1, hf1⟩ := bcell hb1; have hs1 := hb1.size; (try simp at hs1); (try have hz0 : w.heap.size < w1.heap.size := by omega); (try have hz1 : w.heap.size + 1 < w1.heap.size := by omega); (try have hz2 : w.heap.size + 1 + 1 < w1.heap.size := by omega); (try have hz3 : w.heap.size + 1 + 1 + 1 < w1.heap.size := by omega); (try have hz4 : w.heap.size + 1 + 1 + 1 + 1 < w1.heap.size := by omega); (try have hz5 : w.heap.size + 1 + 1 + 1 + 1 + 1 < w1.heap.size := by omega))
      refine bodyPost_ret (v := .tuple #[.agg #[.int .i64 0, .int .i64 0], .int .i64 (chk bn bd)]) (by simp (maxDischargeDepth := 8) [results, Try.results33, go_sem, *]) rfl ?_
      exact ⟨rfl, by ((repeat' (first | exact Below.refl _ _ | assumption | refine Below.setCell ?_ ?_ _ | refine bdrewN ?_ _ | refine Below.drew ?_ | refine Below.alloc ?_ ?_ _ | refine bbehind ?_ (by assumption) ?_)); all_goals first | (simp; done) | (simp; omega) | omega)⟩
  · have hA' : (chk an ad != 0) = true := by simpa using hA
    rw [twoT_a hA]
    have HA := Lib.hid hA; clear hA
    go_enter Try.func33, Try.ntmps33
    go_wp2_with (go_at_call 74; refine (firstError_two _ an ad bn bd _ (by simp) (by simp [go_sem]) (by simp [go_sem]) (by simp [go_sem]) (by simp [go_sem])).mono ?_; rintro e w1 ⟨rfl, hb1⟩; obtain ⟨hc1, hf1⟩ := bcell hb1; have hs1 := hb1.size; (try simp at hs1); (try have hz0 : w.heap.size < w1.heap.size := by omega); (try have hz1 : w.heap.size + 1 < w1.heap.size := by omega); (try have hz2 : w.heap.size + 1 + 1 < w1.heap.size := by omega); (try have hz3 : w.heap.size + 1 + 1 + 1 < w1.heap.size := by omega); (try have hz4 : w.heap.size + 1 + 1 + 1 + 1 < w1.heap.size := by omega); (try have hz5 : w.heap.size + 1 + 1 + 1 + 1 + 1 < w1.heap.size := by omega))
    refine bodyPost_ret (v := .tuple #[.agg #[.int .i64 0, .int .i64 0], .int .i64 (chk an ad)]) (by simp (maxDischargeDepth := 8) [results, Try.results33, go_sem, *]) rfl ?_
    exact ⟨rfl, by ((repeat' (first | exact Below.refl _ _ | assumption | refine Below.setCell ?_ ?_ _ | refine bdrewN ?_ _ | refine Below.drew ?_ | refine Below.alloc ?_ ?_ _ | refine bbehind ?_ (by assumption) ?_)); all_goals first | (simp; done) | (simp; omega) | omega)⟩

def wideB (n : Int) : Bool := decide (-1000000000000000000 ≤ n ∧ n ≤ 1000000000000000000)
theorem wideB_of {n : Int} (h : wideB n = true) : -1000000000000000000 ≤ n ∧ n ≤ 1000000000000000000 := of_decide_eq_true h
theorem wideB_not {n : Int} (h : ¬ wideB n = true) : ¬ (-1000000000000000000 ≤ n ∧ n ≤ 1000000000000000000) := fun k => h (decide_eq_true k)

set_option maxHeartbeats 400000 in
theorem wide_any (n : Int) (w : World) : Calls Try.prog 69 #[.int .i64 n] w fun e w' => e = .returned (.bool (wideB n)) ∧ w = w' := by
  by_cases h1 : -1000000000000000000 ≤ n
  · by_cases h2 : n ≤ 1000000000000000000
    · go_enter Try.func69, Try.ntmps69
      go_wp2
      go_ret
      exact ⟨ret_bool (decide_eq_true ⟨h1, h2⟩).symm, rfl⟩
    · go_enter Try.func69, Try.ntmps69
      go_wp2
      go_ret
      exact ⟨ret_bool (decide_eq_false (by omega)).symm, rfl⟩
  · go_enter Try.func69, Try.ntmps69
    go_wp2
    go_ret
    exact ⟨ret_bool (decide_eq_false (by omega)).symm, rfl⟩

set_option maxHeartbeats 400000 in
theorem makeClo_any (b0 b1 : Nat) (n d : Int) (w : World) (hn : wideB n = true) (hd : wideB d = true) (h0 : ¬ d = 0)
    (h1 : w.cell? ⟨b0, 0, none⟩ = some (.int .i64 n)) (h2 : w.cell? ⟨b1, 0, none⟩ = some (.int .i64 d)) (k0 : b0 < w.heap.size) (k1 : b1 < w.heap.size) :
    Calls Try.prog 71 #[.pointer (some ⟨b0, 0, none⟩), .pointer (some ⟨b1, 0, none⟩)] w fun e w' => e = lowEnd n d ∧ Below w.heap.size w w' := by
  have hn := wideB_of hn
  have hd := wideB_of hd
  have k2 : b0 ≤ w.heap.size := by omega
  have k3 : b1 ≤ w.heap.size := by omega
  by_cases hok : lowOk n d = true
  · go_enter Try.func71, Try.ntmps71
    go_wp2_with (go_at_call 72; refine (lowest_ok _ _ _ (by omega) (by omega) (by omega) (by omega) h0 hok).mono ?_; rintro e w1 ⟨rfl, hb1⟩; obtain ⟨hc1, hf1⟩ := bcell hb1; have hs1 := hb1.size; (try simp at hs1); (try have hz0 : w.heap.size < w1.heap.size := by omega); (try have hz1 : w.heap.size + 1 < w1.heap.size := by omega); (try have hz2 : w.heap.size + 1 + 1 < w1.heap.size := by omega); (try have hz3 : w.heap.size + 1 + 1 + 1 < w1.heap.size := by omega); (try have hz4 : w.heap.size + 1 + 1 + 1 + 1 < w1.heap.size := by omega); (try have hz5 : w.heap.size + 1 + 1 + 1 + 1 + 1 < w1.heap.size := by omega))
    refine bodyPost_ret (v := .agg #[.int .i64 (lowN n d), .int .i64 (lowD n d)]) (by simp (maxDischargeDepth := 8) [results, Try.results71, go_sem, *]) rfl ?_
    exact ⟨(lowEnd_yes hok).symm, by ((repeat' (first | exact Below.refl _ _ | assumption | refine Below.setCell ?_ ?_ _ | refine bdrewN ?_ _ | refine Below.drew ?_ | refine Below.alloc ?_ ?_ _ | refine bbehind ?_ (by assumption) ?_)); all_goals first | (simp; done) | (simp; omega) | omega)⟩
  · go_enter Try.func71, Try.ntmps71
    go_wp2_with (go_at_call 72; refine (lowest_beyond _ _ _ (by omega) (by omega) (by omega) (by omega) h0 hok).mono ?_; rintro e w1 ⟨rfl, hb1⟩; obtain ⟨hc1, hf1⟩ := bcell hb1; have hs1 := hb1.size; (try simp at hs1); (try have hz0 : w.heap.size < w1.heap.size := by omega); (try have hz1 : w.heap.size + 1 < w1.heap.size := by omega); (try have hz2 : w.heap.size + 1 + 1 < w1.heap.size := by omega); (try have hz3 : w.heap.size + 1 + 1 + 1 < w1.heap.size := by omega); (try have hz4 : w.heap.size + 1 + 1 + 1 + 1 < w1.heap.size := by omega); (try have hz5 : w.heap.size + 1 + 1 + 1 + 1 + 1 < w1.heap.size := by omega))
    exact ⟨rfl, (lowEnd_not hok).symm, by ((repeat' (first | exact Below.refl _ _ | assumption | refine Below.setCell ?_ ?_ _ | refine bdrewN ?_ _ | refine Below.drew ?_ | refine Below.alloc ?_ ?_ _ | refine bbehind ?_ (by assumption) ?_)); all_goals first | (simp; done) | (simp; omega) | omega)⟩

theorem bc_make (b0 b1 : Nat) (n d : Int) (w : World) (hn : wideB n = true) (hd : wideB d = true) (h0 : ¬ d = 0)
    (h1 : w.cell? ⟨b0, 0, none⟩ = some (.int .i64 n)) (h2 : w.cell? ⟨b1, 0, none⟩ = some (.int .i64 d)) (k0 : b0 < w.heap.size) (k1 : b1 < w.heap.size) :
    Calls Try.prog 70 #[.func (.func 71) #[] #[.pointer (some ⟨b0, 0, none⟩), .pointer (some ⟨b1, 0, none⟩)]] w fun e w' => e = .returned (.tuple #[.agg #[.int .i64 (lowT n d).1, .int .i64 (lowT n d).2.1], .int .i64 (lowT n d).2.2]) ∧ Below w.heap.size w w' := by
  have hf : ∀ w1, Below w.heap.size w w1 → Calls Try.prog 71 #[.pointer (some ⟨b0, 0, none⟩), .pointer (some ⟨b1, 0, none⟩)] w1 fun e w' => e = lowEnd n d ∧ Below w1.heap.size w1 w' := fun w1 hw => by
    obtain ⟨hc, _⟩ := bcell hw
    have hz := hw.size
    exact makeClo_any b0 b1 n d w1 hn hd h0 ((hc _ _ k0).trans h1) ((hc _ _ k1).trans h2) (by omega) (by omega)
  by_cases hok : lowOk n d = true
  · rw [lowT_yes hok]
    exact bounded_ret _ _ _ _ w (fun w1 => by kernel_rfl) (fun w1 hw => low_yes hok (hf w1 hw))
  · rw [lowT_not hok]
    exact bounded_beyond _ _ w (fun w1 => by kernel_rfl) (fun w1 hw => low_not hok (hf w1 hw))

def makeT (n d : Int) : Int × Int × Int := if wideB n = true ∧ wideB d = true then (if d = 0 then (0, 0, 10) else lowT n d) else (0, 0, 3)

set_option maxHeartbeats 1600000 in
theorem make_any (n d : Int) (w : World) :
    Calls Try.prog 18 #[.int .i64 n, .int .i64 d] w fun e w' => e = .returned (.tuple #[.agg #[.int .i64 (makeT n d).1, .int .i64 (makeT n d).2.1], .int .i64 (makeT n d).2.2]) ∧ Below w.heap.size w w' := by
  have hmf : ∀ (fn : Fn) (first cap : Array Value) (w : World), (Instr.makeFunc fn first cap).run Try.prog w = .ok (.func fn first cap) w := fun _ _ _ _ => rfl
  unfold makeT
  by_cases hn : wideB n = true
  · by_cases hd : wideB d = true
    · rw [if_pos ⟨hn, hd⟩]
      by_cases h0 : d = 0
      · subst h0
        rw [if_pos rfl]
        go_enter Try.func18, Try.ntmps18
        go_wp2_with (go_at_call 69; refine (wide_any _ _).mono ?_; rintro e w1 ⟨rfl, rfl⟩)
        refine bodyPost_ret (v := .tuple #[.agg #[.int .i64 0, .int .i64 0], .int .i64 10]) (by simp (maxDischargeDepth := 8) [results, Try.results18, go_sem, *]) rfl ?_
        exact ⟨rfl, by ((repeat' (first | exact Below.refl _ _ | assumption | refine Below.setCell ?_ ?_ _ | refine bdrewN ?_ _ | refine Below.drew ?_ | refine Below.alloc ?_ ?_ _ | refine bbehind ?_ (by assumption) ?_)); all_goals first | (simp; done) | (simp; omega) | omega)⟩
      · have h0' : (d == 0) = false := by simpa using h0
        rw [if_neg h0]
        go_enter Try.func18, Try.ntmps18
        go_wp2_with (first | (go_at_call 69; refine (wide_any _ _).mono ?_; rintro e w1 ⟨rfl, rfl⟩) | (go_at_call 70; refine (bc_make _ _ n d _ hn hd h0 (by simp (maxDischargeDepth := 8) [go_sem, *]) (by simp (maxDischargeDepth := 8) [go_sem, *]) (by first | assumption | (simp; done) | (simp; omega) | omega) (by first | assumption | (simp; done) | (simp; omega) | omega)).mono ?_; rintro e w1 ⟨rfl, hb1⟩; obtain ⟨hc1, hf1⟩ := bcell hb1; have hs1 := hb1.size; (try simp at hs1); (try have hz0 : w.heap.size < w1.heap.size := by omega); (try have hz1 : w.heap.size + 1 < w1.heap.size := by omega); (try have hz2 : w.heap.size + 1 + 1 < w1.heap.size := by omega); (try have hz3 : w.heap.size + 1 + 1 + 1 < w1.heap.size := by omega); (try have hz4 : w.heap.size + 1 + 1 + 1 + 1 < w1.heap.size := by omega); (try have hz5 : w.heap.size + 1 + 1 + 1 + 1 + 1 < w1.heap.size := by omega)))
        refine bodyPost_ret (v := .tuple #[.agg #[.int .i64 (lowT n d).1, .int .i64 (lowT n d).2.1], .int .i64 (lowT n d).2.2]) (by simp (maxDischargeDepth := 8) [results, Try.results18, go_sem, *]) rfl ?_
        exact ⟨rfl, by ((repeat' (first | exact Below.refl _ _ | assumption | refine Below.setCell ?_ ?_ _ | refine bdrewN ?_ _ | refine Below.drew ?_ | refine Below.alloc ?_ ?_ _ | refine bbehind ?_ (by assumption) ?_)); all_goals first | (simp; done) | (simp; omega) | omega)⟩
    · have hd' : wideB d = false := by simpa using hd
      rw [if_neg (fun h => hd h.2)]
      clear hd
      go_enter Try.func18, Try.ntmps18
      go_wp2_with (go_at_call 69; refine (wide_any _ _).mono ?_; rintro e w1 ⟨rfl, rfl⟩)
      refine bodyPost_ret (v := .tuple #[.agg #[.int .i64 0, .int .i64 0], .int .i64 3]) (by simp (maxDischargeDepth := 8) [results, Try.results18, go_sem, *]) rfl ?_
      exact ⟨rfl, by ((repeat' (first | exact Below.refl _ _ | assumption | refine Below.setCell ?_ ?_ _ | refine bdrewN ?_ _ | refine Below.drew ?_ | refine Below.alloc ?_ ?_ _ | refine bbehind ?_ (by assumption) ?_)); all_goals first | (simp; done) | (simp; omega) | omega)⟩
  · have hn' : wideB n = false := by simpa using hn
    rw [if_neg (fun h => hn h.1)]
    clear hn
    go_enter Try.func18, Try.ntmps18
    go_wp2_with (go_at_call 69; refine (wide_any _ _).mono ?_; rintro e w1 ⟨rfl, rfl⟩)
    refine bodyPost_ret (v := .tuple #[.agg #[.int .i64 0, .int .i64 0], .int .i64 3]) (by simp (maxDischargeDepth := 8) [results, Try.results18, go_sem, *]) rfl ?_
    exact ⟨rfl, by ((repeat' (first | exact Below.refl _ _ | assumption | refine Below.setCell ?_ ?_ _ | refine bdrewN ?_ _ | refine Below.drew ?_ | refine Below.alloc ?_ ?_ _ | refine bbehind ?_ (by assumption) ?_)); all_goals first | (simp; done) | (simp; omega) | omega)⟩

end Go.Proofs.Ytgefidffhdanhaa
