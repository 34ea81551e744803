import Derived.Test.YtgefidffhdanhaaNumD
namespace Go.Proofs.Ytgefidffhdanhaa
open Go.RowKit Go.BigFrame

/-- the error of the first number that has one. -/
def firstErr : List (Int × Int) → Int
  | [] => 0
  | (n, d) :: r => if chk n d = 0 then firstErr r else chk n d

/-- where a list of numbers lies. -/
def NumsAt (w : World) (b off : Nat) (l : List (Int × Int)) : Prop :=
  ∀ k, k < l.length → w.cell? ⟨b, off + k * 2, none⟩ = some (.int .i64 (l.getD k (0, 0)).1) ∧ w.cell? ⟨b, off + k * 2 + 1, none⟩ = some (.int .i64 (l.getD k (0, 0)).2)

theorem firstErr_step (l : List (Int × Int)) (k : Nat) (h : k < l.length) :
    firstErr (l.drop k) = if chk (l.getD k (0, 0)).1 (l.getD k (0, 0)).2 = 0 then firstErr (l.drop (k + 1)) else chk (l.getD k (0, 0)).1 (l.getD k (0, 0)).2 := by
  rw [List.drop_eq_getElem_cons h]
  simp only [List.getD_eq_getElem?_getD, List.getElem?_eq_getElem h, Option.getD_some]
  rfl

set_option maxHeartbeats 400000 in
theorem firstError_any (b off cap : Nat) (l : List (Int × Int)) (w : World) (hl : l.length ≤ 4611686018427387904) (hb : b < w.heap.size) (hc : NumsAt w b off l) :
    Calls Try.prog 74 #[.slice (some ⟨b, off, none⟩) l.length cap] w fun e w' => e = .returned (.int .i64 (firstErr l)) ∧ Below w.heap.size w w' := by
  have HC := Lib.hid hc; clear hc
  go_enter Try.func74, Try.ntmps74
  go_wp2
  go_loopw [8] (fun i wr => ∃ k : Nat, k ≤ l.length ∧ i = .int .i64 k ∧ firstErr (l.drop k) = firstErr l ∧ Below w.heap.size w wr) (fun i _ => l.length - (intOf i).toNat)
  case atStart => exact ⟨0, Nat.zero_le _, rfl, by simp, Below.refl _ _⟩
  case round =>
    obtain ⟨k, hk, rfl, he, hbw⟩ := hrel
    have HE := Lib.hid he; clear he
    by_cases hlt : k < l.length
    · obtain ⟨c1, c2⟩ := HC.out k hlt
      have d1 : wr.cell? ⟨b, off + k * 2, none⟩ = some (.int .i64 (l.getD k (0, 0)).1) := by rw [hbw.cell (p := ⟨b, _, none⟩) hb]; exact c1
      have d2 : wr.cell? ⟨b, off + k * 2 + 1, none⟩ = some (.int .i64 (l.getD k (0, 0)).2) := by rw [hbw.cell (p := ⟨b, _, none⟩) hb]; exact c2
      have HS := Lib.hid (firstErr_step l k hlt)
      have hsz := hbw.size
      clear c1 c2
      generalize (l.getD k (0, 0)).1 = x at *
      generalize (l.getD k (0, 0)).2 = y at *
      by_cases hx : chk x y = 0
      · have hx' : (chk x y != 0) = false := by simp [hx]
        have HX := Lib.hid hx; clear hx
        go_wp2_with (go_at_call 16; refine (check_any _ _ _).mono ?_; rintro e w1 ⟨rfl, hb1⟩; obtain ⟨hc1, hf1⟩ := bcell hb1; have hs1 := hb1.size; (try simp at hs1); (try have hz0 : w.heap.size < w1.heap.size := by omega); (try have hz1 : w.heap.size + 1 < w1.heap.size := by omega); (try have hz2 : w.heap.size + 1 + 1 < w1.heap.size := by omega); (try have hz3 : w.heap.size + 1 + 1 + 1 < w1.heap.size := by omega); (try have hz4 : w.heap.size + 1 + 1 + 1 + 1 < w1.heap.size := by omega); (try have hz5 : w.heap.size + 1 + 1 + 1 + 1 + 1 < w1.heap.size := by omega))
        go_roundw
        case rel => exact ⟨k + 1, by omega, by go_num, by rw [← HE.out, HS.out, if_pos HX.out], by ((repeat' (first | exact Below.refl _ _ | assumption | refine Below.setCell ?_ ?_ _ | refine bdrewN ?_ _ | refine Below.drew ?_ | refine Below.alloc ?_ ?_ _ | refine bbehind ?_ (by assumption) ?_)); all_goals first | (simp; done) | (simp; omega) | omega)⟩
        case measure => simp [intOf]; omega
      · have hx' : (chk x y != 0) = true := by simpa using hx
        have HX := Lib.hid hx; clear hx
        go_wp2_with (go_at_call 16; refine (check_any _ _ _).mono ?_; rintro e w1 ⟨rfl, hb1⟩; obtain ⟨hc1, hf1⟩ := bcell hb1; have hs1 := hb1.size; (try simp at hs1); (try have hz0 : w.heap.size < w1.heap.size := by omega); (try have hz1 : w.heap.size + 1 < w1.heap.size := by omega); (try have hz2 : w.heap.size + 1 + 1 < w1.heap.size := by omega); (try have hz3 : w.heap.size + 1 + 1 + 1 < w1.heap.size := by omega); (try have hz4 : w.heap.size + 1 + 1 + 1 + 1 < w1.heap.size := by omega); (try have hz5 : w.heap.size + 1 + 1 + 1 + 1 + 1 < w1.heap.size := by omega))
        go_ret
        exact ⟨ret_int (by rw [← HE.out, HS.out, if_neg HX.out]), by ((repeat' (first | exact Below.refl _ _ | assumption | refine Below.setCell ?_ ?_ _ | refine bdrewN ?_ _ | refine Below.drew ?_ | refine Below.alloc ?_ ?_ _ | refine bbehind ?_ (by assumption) ?_)); all_goals first | (simp; done) | (simp; omega) | omega)⟩
    · go_wp2
      go_ret
      exact ⟨ret_int (by rw [← HE.out, List.drop_of_length_le (by omega)]; rfl), hbw⟩

set_option maxHeartbeats 400000 in
theorem clo_plus (b0 b1 b2 : Nat) (an ad bn bd : Int) (w : World) (fa : Fit an ad) (fb : Fit bn bd)
    (h1 : w.cell? ⟨b0, 0, none⟩ = some (.int .i64 0)) (h2 : w.cell? ⟨b1, 0, none⟩ = some (.int .i64 an)) (h3 : w.cell? ⟨b1, 1, none⟩ = some (.int .i64 ad))
    (h4 : w.cell? ⟨b2, 0, none⟩ = some (.int .i64 bn)) (h5 : w.cell? ⟨b2, 1, none⟩ = some (.int .i64 bd)) (k0 : b0 < w.heap.size) (k1 : b1 < w.heap.size) (k2 : b2 < w.heap.size) :
    Calls Try.prog 122 #[.pointer (some ⟨b0, 0, none⟩), .pointer (some ⟨b1, 0, none⟩), .pointer (some ⟨b2, 0, none⟩)] w fun e w' => e = lowEnd (an * bd + bn * ad) (ad * bd) ∧ Below w.heap.size w w' := by
  have hix : ∀ w, (Instr.index 109 (.agg #[.func (.func 124) #[] #[], .func (.func 133) #[] #[], .func (.func 125) #[] #[], .func (.func 134) #[] #[]]) (.int .i64 0)).run Try.prog w = .ok (.func (.func 124) #[] #[]) w := fun _ => by kernel_rfl
  have k3 : b0 ≤ w.heap.size := by omega
  have k4 : b1 ≤ w.heap.size := by omega
  have k5 : b2 ≤ w.heap.size := by omega
  by_cases hok : lowOk (an * bd + bn * ad) (ad * bd) = true
  · go_enter Try.func122, Try.ntmps122
    go_wp2
    refine wp_region_quiet_tail (fun w' => ∃ x : Lower _, w' = x.val) 5 (by kernel_rfl) (by kernel_rfl) ⟨⟨_, (Below.refl _ _).drew⟩, rfl⟩ ?_
    simp only [List.take_succ_cons, List.take_zero, List.drop_succ_cons, List.drop_zero]
    repeat (go_big_quiet_step ((go_at_call 123; exact calls_lower _ (table_any _))))
    refine wpQuiet_nil ?_
    intro w1 hx1
    obtain ⟨x1, hx1⟩ := hx1
    have hb1 := x1.prop
    rw [← hx1] at hb1
    clear hx1 x1
    obtain ⟨hc1, hf1⟩ := bcell hb1
    have hs1 := hb1.size
    try simp at hs1
    try have hz0 : w.heap.size < w1.heap.size := by omega
    try have hz1 : w.heap.size + 1 < w1.heap.size := by omega
    try have hz2 : w.heap.size + 1 + 1 < w1.heap.size := by omega
    try have hz3 : w.heap.size + 1 + 1 + 1 < w1.heap.size := by omega
    try have hz4 : w.heap.size + 1 + 1 + 1 + 1 < w1.heap.size := by omega
    try have hz5 : w.heap.size + 1 + 1 + 1 + 1 + 1 < w1.heap.size := by omega
    go_wp2_with (go_at_call 124; refine (low_yes hok (plus_any _ _ _ _ _ fa fb)).mono ?_; rintro e w1 ⟨rfl, hb1⟩; obtain ⟨hc1, hf1⟩ := bcell hb1; have hs1 := hb1.size; (try simp at hs1); (try have hz0 : w.heap.size < w1.heap.size := by omega); (try have hz1 : w.heap.size + 1 < w1.heap.size := by omega); (try have hz2 : w.heap.size + 1 + 1 < w1.heap.size := by omega); (try have hz3 : w.heap.size + 1 + 1 + 1 < w1.heap.size := by omega); (try have hz4 : w.heap.size + 1 + 1 + 1 + 1 < w1.heap.size := by omega); (try have hz5 : w.heap.size + 1 + 1 + 1 + 1 + 1 < w1.heap.size := by omega))
    refine bodyPost_ret (v := .agg #[.int .i64 (lowN (an * bd + bn * ad) (ad * bd)), .int .i64 (lowD (an * bd + bn * ad) (ad * bd))]) (by simp (maxDischargeDepth := 8) [results, Try.results122, go_sem, *]) rfl ?_
    exact ⟨(lowEnd_yes hok).symm, by ((repeat' (first | exact Below.refl _ _ | assumption | refine Below.setCell ?_ ?_ _ | refine bdrewN ?_ _ | refine Below.drew ?_ | refine Below.alloc ?_ ?_ _ | refine bbehind ?_ (by assumption) ?_)); all_goals first | (simp; done) | (simp; omega) | omega)⟩
  · go_enter Try.func122, Try.ntmps122
    go_wp2
    refine wp_region_quiet_tail (fun w' => ∃ x : Lower _, w' = x.val) 5 (by kernel_rfl) (by kernel_rfl) ⟨⟨_, (Below.refl _ _).drew⟩, rfl⟩ ?_
    simp only [List.take_succ_cons, List.take_zero, List.drop_succ_cons, List.drop_zero]
    repeat (go_big_quiet_step ((go_at_call 123; exact calls_lower _ (table_any _))))
    refine wpQuiet_nil ?_
    intro w1 hx1
    obtain ⟨x1, hx1⟩ := hx1
    have hb1 := x1.prop
    rw [← hx1] at hb1
    clear hx1 x1
    obtain ⟨hc1, hf1⟩ := bcell hb1
    have hs1 := hb1.size
    try simp at hs1
    try have hz0 : w.heap.size < w1.heap.size := by omega
    try have hz1 : w.heap.size + 1 < w1.heap.size := by omega
    try have hz2 : w.heap.size + 1 + 1 < w1.heap.size := by omega
    try have hz3 : w.heap.size + 1 + 1 + 1 < w1.heap.size := by omega
    try have hz4 : w.heap.size + 1 + 1 + 1 + 1 < w1.heap.size := by omega
    try have hz5 : w.heap.size + 1 + 1 + 1 + 1 + 1 < w1.heap.size := by omega
    go_wp2_with (go_at_call 124; refine (low_not hok (plus_any _ _ _ _ _ fa fb)).mono ?_; rintro e w1 ⟨rfl, hb1⟩; obtain ⟨hc1, hf1⟩ := bcell hb1; have hs1 := hb1.size; (try simp at hs1); (try have hz0 : w.heap.size < w1.heap.size := by omega); (try have hz1 : w.heap.size + 1 < w1.heap.size := by omega); (try have hz2 : w.heap.size + 1 + 1 < w1.heap.size := by omega); (try have hz3 : w.heap.size + 1 + 1 + 1 < w1.heap.size := by omega); (try have hz4 : w.heap.size + 1 + 1 + 1 + 1 < w1.heap.size := by omega); (try have hz5 : w.heap.size + 1 + 1 + 1 + 1 + 1 < w1.heap.size := by omega))
    exact ⟨rfl, (lowEnd_not hok).symm, by ((repeat' (first | exact Below.refl _ _ | assumption | refine Below.setCell ?_ ?_ _ | refine bdrewN ?_ _ | refine Below.drew ?_ | refine Below.alloc ?_ ?_ _ | refine bbehind ?_ (by assumption) ?_)); all_goals first | (simp; done) | (simp; omega) | omega)⟩

set_option maxHeartbeats 400000 in
theorem clo_minus (b0 b1 b2 : Nat) (an ad bn bd : Int) (w : World) (fa : Fit an ad) (fb : Fit bn bd)
    (h1 : w.cell? ⟨b0, 0, none⟩ = some (.int .i64 1)) (h2 : w.cell? ⟨b1, 0, none⟩ = some (.int .i64 an)) (h3 : w.cell? ⟨b1, 1, none⟩ = some (.int .i64 ad))
    (h4 : w.cell? ⟨b2, 0, none⟩ = some (.int .i64 bn)) (h5 : w.cell? ⟨b2, 1, none⟩ = some (.int .i64 bd)) (k0 : b0 < w.heap.size) (k1 : b1 < w.heap.size) (k2 : b2 < w.heap.size) :
    Calls Try.prog 122 #[.pointer (some ⟨b0, 0, none⟩), .pointer (some ⟨b1, 0, none⟩), .pointer (some ⟨b2, 0, none⟩)] w fun e w' => e = lowEnd (an * bd - bn * ad) (ad * bd) ∧ Below w.heap.size w w' := by
  have hix : ∀ w, (Instr.index 109 (.agg #[.func (.func 124) #[] #[], .func (.func 133) #[] #[], .func (.func 125) #[] #[], .func (.func 134) #[] #[]]) (.int .i64 1)).run Try.prog w = .ok (.func (.func 133) #[] #[]) w := fun _ => by kernel_rfl
  have k3 : b0 ≤ w.heap.size := by omega
  have k4 : b1 ≤ w.heap.size := by omega
  have k5 : b2 ≤ w.heap.size := by omega
  by_cases hok : lowOk (an * bd - bn * ad) (ad * bd) = true
  · go_enter Try.func122, Try.ntmps122
    go_wp2
    refine wp_region_quiet_tail (fun w' => ∃ x : Lower _, w' = x.val) 5 (by kernel_rfl) (by kernel_rfl) ⟨⟨_, (Below.refl _ _).drew⟩, rfl⟩ ?_
    simp only [List.take_succ_cons, List.take_zero, List.drop_succ_cons, List.drop_zero]
    repeat (go_big_quiet_step ((go_at_call 123; exact calls_lower _ (table_any _))))
    refine wpQuiet_nil ?_
    intro w1 hx1
    obtain ⟨x1, hx1⟩ := hx1
    have hb1 := x1.prop
    rw [← hx1] at hb1
    clear hx1 x1
    obtain ⟨hc1, hf1⟩ := bcell hb1
    have hs1 := hb1.size
    try simp at hs1
    try have hz0 : w.heap.size < w1.heap.size := by omega
    try have hz1 : w.heap.size + 1 < w1.heap.size := by omega
    try have hz2 : w.heap.size + 1 + 1 < w1.heap.size := by omega
    try have hz3 : w.heap.size + 1 + 1 + 1 < w1.heap.size := by omega
    try have hz4 : w.heap.size + 1 + 1 + 1 + 1 < w1.heap.size := by omega
    try have hz5 : w.heap.size + 1 + 1 + 1 + 1 + 1 < w1.heap.size := by omega
    go_wp2_with (go_at_call 133; refine (low_yes hok (minus_any _ _ _ _ _ fa fb)).mono ?_; rintro e w1 ⟨rfl, hb1⟩; obtain ⟨hc1, hf1⟩ := bcell hb1; have hs1 := hb1.size; (try simp at hs1); (try have hz0 : w.heap.size < w1.heap.size := by omega); (try have hz1 : w.heap.size + 1 < w1.heap.size := by omega); (try have hz2 : w.heap.size + 1 + 1 < w1.heap.size := by omega); (try have hz3 : w.heap.size + 1 + 1 + 1 < w1.heap.size := by omega); (try have hz4 : w.heap.size + 1 + 1 + 1 + 1 < w1.heap.size := by omega); (try have hz5 : w.heap.size + 1 + 1 + 1 + 1 + 1 < w1.heap.size := by omega))
    refine bodyPost_ret (v := .agg #[.int .i64 (lowN (an * bd - bn * ad) (ad * bd)), .int .i64 (lowD (an * bd - bn * ad) (ad * bd))]) (by simp (maxDischargeDepth := 8) [results, Try.results122, go_sem, *]) rfl ?_
    exact ⟨(lowEnd_yes hok).symm, by ((repeat' (first | exact Below.refl _ _ | assumption | refine Below.setCell ?_ ?_ _ | refine bdrewN ?_ _ | refine Below.drew ?_ | refine Below.alloc ?_ ?_ _ | refine bbehind ?_ (by assumption) ?_)); all_goals first | (simp; done) | (simp; omega) | omega)⟩
  · go_enter Try.func122, Try.ntmps122
    go_wp2
    refine wp_region_quiet_tail (fun w' => ∃ x : Lower _, w' = x.val) 5 (by kernel_rfl) (by kernel_rfl) ⟨⟨_, (Below.refl _ _).drew⟩, rfl⟩ ?_
    simp only [List.take_succ_cons, List.take_zero, List.drop_succ_cons, List.drop_zero]
    repeat (go_big_quiet_step ((go_at_call 123; exact calls_lower _ (table_any _))))
    refine wpQuiet_nil ?_
    intro w1 hx1
    obtain ⟨x1, hx1⟩ := hx1
    have hb1 := x1.prop
    rw [← hx1] at hb1
    clear hx1 x1
    obtain ⟨hc1, hf1⟩ := bcell hb1
    have hs1 := hb1.size
    try simp at hs1
    try have hz0 : w.heap.size < w1.heap.size := by omega
    try have hz1 : w.heap.size + 1 < w1.heap.size := by omega
    try have hz2 : w.heap.size + 1 + 1 < w1.heap.size := by omega
    try have hz3 : w.heap.size + 1 + 1 + 1 < w1.heap.size := by omega
    try have hz4 : w.heap.size + 1 + 1 + 1 + 1 < w1.heap.size := by omega
    try have hz5 : w.heap.size + 1 + 1 + 1 + 1 + 1 < w1.heap.size := by omega
    go_wp2_with (go_at_call 133; refine (low_not hok (minus_any _ _ _ _ _ fa fb)).mono ?_; rintro e w1 ⟨rfl, hb1⟩; obtain ⟨hc1, hf1⟩ := bcell hb1; have hs1 := hb1.size; (try simp at hs1); (try have hz0 : w.heap.size < w1.heap.size := by omega); (try have hz1 : w.heap.size + 1 < w1.heap.size := by omega); (try have hz2 : w.heap.size + 1 + 1 < w1.heap.size := by omega); (try have hz3 : w.heap.size + 1 + 1 + 1 < w1.heap.size := by omega); (try have hz4 : w.heap.size + 1 + 1 + 1 + 1 < w1.heap.size := by omega); (try have hz5 : w.heap.size + 1 + 1 + 1 + 1 + 1 < w1.heap.size := by omega))
    exact ⟨rfl, (lowEnd_not hok).symm, by ((repeat' (first | exact Below.refl _ _ | assumption | refine Below.setCell ?_ ?_ _ | refine bdrewN ?_ _ | refine Below.drew ?_ | refine Below.alloc ?_ ?_ _ | refine bbehind ?_ (by assumption) ?_)); all_goals first | (simp; done) | (simp; omega) | omega)⟩

set_option maxHeartbeats 400000 in
theorem clo_times (b0 b1 b2 : Nat) (an ad bn bd : Int) (w : World) (fa : Fit an ad) (fb : Fit bn bd)
    (h1 : w.cell? ⟨b0, 0, none⟩ = some (.int .i64 2)) (h2 : w.cell? ⟨b1, 0, none⟩ = some (.int .i64 an)) (h3 : w.cell? ⟨b1, 1, none⟩ = some (.int .i64 ad))
    (h4 : w.cell? ⟨b2, 0, none⟩ = some (.int .i64 bn)) (h5 : w.cell? ⟨b2, 1, none⟩ = some (.int .i64 bd)) (k0 : b0 < w.heap.size) (k1 : b1 < w.heap.size) (k2 : b2 < w.heap.size) :
    Calls Try.prog 122 #[.pointer (some ⟨b0, 0, none⟩), .pointer (some ⟨b1, 0, none⟩), .pointer (some ⟨b2, 0, none⟩)] w fun e w' => e = lowEnd (an * bn) (ad * bd) ∧ Below w.heap.size w w' := by
  have hix : ∀ w, (Instr.index 109 (.agg #[.func (.func 124) #[] #[], .func (.func 133) #[] #[], .func (.func 125) #[] #[], .func (.func 134) #[] #[]]) (.int .i64 2)).run Try.prog w = .ok (.func (.func 125) #[] #[]) w := fun _ => by kernel_rfl
  have k3 : b0 ≤ w.heap.size := by omega
  have k4 : b1 ≤ w.heap.size := by omega
  have k5 : b2 ≤ w.heap.size := by omega
  by_cases hok : lowOk (an * bn) (ad * bd) = true
  · go_enter Try.func122, Try.ntmps122
    go_wp2
    refine wp_region_quiet_tail (fun w' => ∃ x : Lower _, w' = x.val) 5 (by kernel_rfl) (by kernel_rfl) ⟨⟨_, (Below.refl _ _).drew⟩, rfl⟩ ?_
    simp only [List.take_succ_cons, List.take_zero, List.drop_succ_cons, List.drop_zero]
    repeat (go_big_quiet_step ((go_at_call 123; exact calls_lower _ (table_any _))))
    refine wpQuiet_nil ?_
    intro w1 hx1
    obtain ⟨x1, hx1⟩ := hx1
    have hb1 := x1.prop
    rw [← hx1] at hb1
    clear hx1 x1
    obtain ⟨hc1, hf1⟩ := bcell hb1
    have hs1 := hb1.size
    try simp at hs1
    try have hz0 : w.heap.size < w1.heap.size := by omega
    try have hz1 : w.heap.size + 1 < w1.heap.size := by omega
    try have hz2 : w.heap.size + 1 + 1 < w1.heap.size := by omega
    try have hz3 : w.heap.size + 1 + 1 + 1 < w1.heap.size := by omega
    try have hz4 : w.heap.size + 1 + 1 + 1 + 1 < w1.heap.size := by omega
    try have hz5 : w.heap.size + 1 + 1 + 1 + 1 + 1 < w1.heap.size := by omega
    go_wp2_with (go_at_call 125; refine (low_yes hok (times_any _ _ _ _ _ fa fb)).mono ?_; rintro e w1 ⟨rfl, hb1⟩; obtain ⟨hc1, hf1⟩ := bcell hb1; have hs1 := hb1.size; (try simp at hs1); (try have hz0 : w.heap.size < w1.heap.size := by omega); (try have hz1 : w.heap.size + 1 < w1.heap.size := by omega); (try have hz2 : w.heap.size + 1 + 1 < w1.heap.size := by omega); (try have hz3 : w.heap.size + 1 + 1 + 1 < w1.heap.size := by omega); (try have hz4 : w.heap.size + 1 + 1 + 1 + 1 < w1.heap.size := by omega); (try have hz5 : w.heap.size + 1 + 1 + 1 + 1 + 1 < w1.heap.size := by omega))
    refine bodyPost_ret (v := .agg #[.int .i64 (lowN (an * bn) (ad * bd)), .int .i64 (lowD (an * bn) (ad * bd))]) (by simp (maxDischargeDepth := 8) [results, Try.results122, go_sem, *]) rfl ?_
    exact ⟨(lowEnd_yes hok).symm, by ((repeat' (first | exact Below.refl _ _ | assumption | refine Below.setCell ?_ ?_ _ | refine bdrewN ?_ _ | refine Below.drew ?_ | refine Below.alloc ?_ ?_ _ | refine bbehind ?_ (by assumption) ?_)); all_goals first | (simp; done) | (simp; omega) | omega)⟩
  · go_enter Try.func122, Try.ntmps122
    go_wp2
    refine wp_region_quiet_tail (fun w' => ∃ x : Lower _, w' = x.val) 5 (by kernel_rfl) (by kernel_rfl) ⟨⟨_, (Below.refl _ _).drew⟩, rfl⟩ ?_
    simp only [List.take_succ_cons, List.take_zero, List.drop_succ_cons, List.drop_zero]
    repeat (go_big_quiet_step ((go_at_call 123; exact calls_lower _ (table_any _))))
    refine wpQuiet_nil ?_
    intro w1 hx1
    obtain ⟨x1, hx1⟩ := hx1
    have hb1 := x1.prop
    rw [← hx1] at hb1
    clear hx1 x1
    obtain ⟨hc1, hf1⟩ := bcell hb1
    have hs1 := hb1.size
    try simp at hs1
    try have hz0 : w.heap.size < w1.heap.size := by omega
    try have hz1 : w.heap.size + 1 < w1.heap.size := by omega
    try have hz2 : w.heap.size + 1 + 1 < w1.heap.size := by omega
    try have hz3 : w.heap.size + 1 + 1 + 1 < w1.heap.size := by omega
    try have hz4 : w.heap.size + 1 + 1 + 1 + 1 < w1.heap.size := by omega
    try have hz5 : w.heap.size + 1 + 1 + 1 + 1 + 1 < w1.heap.size := by omega
    go_wp2_with (go_at_call 125; refine (low_not hok (times_any _ _ _ _ _ fa fb)).mono ?_; rintro e w1 ⟨rfl, hb1⟩; obtain ⟨hc1, hf1⟩ := bcell hb1; have hs1 := hb1.size; (try simp at hs1); (try have hz0 : w.heap.size < w1.heap.size := by omega); (try have hz1 : w.heap.size + 1 < w1.heap.size := by omega); (try have hz2 : w.heap.size + 1 + 1 < w1.heap.size := by omega); (try have hz3 : w.heap.size + 1 + 1 + 1 < w1.heap.size := by omega); (try have hz4 : w.heap.size + 1 + 1 + 1 + 1 < w1.heap.size := by omega); (try have hz5 : w.heap.size + 1 + 1 + 1 + 1 + 1 < w1.heap.size := by omega))
    exact ⟨rfl, (lowEnd_not hok).symm, by ((repeat' (first | exact Below.refl _ _ | assumption | refine Below.setCell ?_ ?_ _ | refine bdrewN ?_ _ | refine Below.drew ?_ | refine Below.alloc ?_ ?_ _ | refine bbehind ?_ (by assumption) ?_)); all_goals first | (simp; done) | (simp; omega) | omega)⟩

set_option maxHeartbeats 400000 in
theorem clo_over (b0 b1 b2 : Nat) (an ad bn bd : Int) (w : World) (fa : Fit an ad) (fb : Fit bn bd) (h0 : ¬ bn = 0)
    (h1 : w.cell? ⟨b0, 0, none⟩ = some (.int .i64 3)) (h2 : w.cell? ⟨b1, 0, none⟩ = some (.int .i64 an)) (h3 : w.cell? ⟨b1, 1, none⟩ = some (.int .i64 ad))
    (h4 : w.cell? ⟨b2, 0, none⟩ = some (.int .i64 bn)) (h5 : w.cell? ⟨b2, 1, none⟩ = some (.int .i64 bd)) (k0 : b0 < w.heap.size) (k1 : b1 < w.heap.size) (k2 : b2 < w.heap.size) :
    Calls Try.prog 122 #[.pointer (some ⟨b0, 0, none⟩), .pointer (some ⟨b1, 0, none⟩), .pointer (some ⟨b2, 0, none⟩)] w fun e w' => e = lowEnd (an * bd) (ad * bn) ∧ Below w.heap.size w w' := by
  have hix : ∀ w, (Instr.index 109 (.agg #[.func (.func 124) #[] #[], .func (.func 133) #[] #[], .func (.func 125) #[] #[], .func (.func 134) #[] #[]]) (.int .i64 3)).run Try.prog w = .ok (.func (.func 134) #[] #[]) w := fun _ => by kernel_rfl
  have k3 : b0 ≤ w.heap.size := by omega
  have k4 : b1 ≤ w.heap.size := by omega
  have k5 : b2 ≤ w.heap.size := by omega
  by_cases hok : lowOk (an * bd) (ad * bn) = true
  · go_enter Try.func122, Try.ntmps122
    go_wp2
    refine wp_region_quiet_tail (fun w' => ∃ x : Lower _, w' = x.val) 5 (by kernel_rfl) (by kernel_rfl) ⟨⟨_, (Below.refl _ _).drew⟩, rfl⟩ ?_
    simp only [List.take_succ_cons, List.take_zero, List.drop_succ_cons, List.drop_zero]
    repeat (go_big_quiet_step ((go_at_call 123; exact calls_lower _ (table_any _))))
    refine wpQuiet_nil ?_
    intro w1 hx1
    obtain ⟨x1, hx1⟩ := hx1
    have hb1 := x1.prop
    rw [← hx1] at hb1
    clear hx1 x1
    obtain ⟨hc1, hf1⟩ := bcell hb1
    have hs1 := hb1.size
    try simp at hs1
    try have hz0 : w.heap.size < w1.heap.size := by omega
    try have hz1 : w.heap.size + 1 < w1.heap.size := by omega
    try have hz2 : w.heap.size + 1 + 1 < w1.heap.size := by omega
    try have hz3 : w.heap.size + 1 + 1 + 1 < w1.heap.size := by omega
    try have hz4 : w.heap.size + 1 + 1 + 1 + 1 < w1.heap.size := by omega
    try have hz5 : w.heap.size + 1 + 1 + 1 + 1 + 1 < w1.heap.size := by omega
    go_wp2_with (go_at_call 134; refine (low_yes hok (over_any _ _ _ _ _ fa fb h0)).mono ?_; rintro e w1 ⟨rfl, hb1⟩; obtain ⟨hc1, hf1⟩ := bcell hb1; have hs1 := hb1.size; (try simp at hs1); (try have hz0 : w.heap.size < w1.heap.size := by omega); (try have hz1 : w.heap.size + 1 < w1.heap.size := by omega); (try have hz2 : w.heap.size + 1 + 1 < w1.heap.size := by omega); (try have hz3 : w.heap.size + 1 + 1 + 1 < w1.heap.size := by omega); (try have hz4 : w.heap.size + 1 + 1 + 1 + 1 < w1.heap.size := by omega); (try have hz5 : w.heap.size + 1 + 1 + 1 + 1 + 1 < w1.heap.size := by omega))
    refine bodyPost_ret (v := .agg #[.int .i64 (lowN (an * bd) (ad * bn)), .int .i64 (lowD (an * bd) (ad * bn))]) (by simp (maxDischargeDepth := 8) [results, Try.results122, go_sem, *]) rfl ?_
    exact ⟨(lowEnd_yes hok).symm, by ((repeat' (first | exact Below.refl _ _ | assumption | refine Below.setCell ?_ ?_ _ | refine bdrewN ?_ _ | refine Below.drew ?_ | refine Below.alloc ?_ ?_ _ | refine bbehind ?_ (by assumption) ?_)); all_goals first | (simp; done) | (simp; omega) | omega)⟩
  · go_enter Try.func122, Try.ntmps122
    go_wp2
    refine wp_region_quiet_tail (fun w' => ∃ x : Lower _, w' = x.val) 5 (by kernel_rfl) (by kernel_rfl) ⟨⟨_, (Below.refl _ _).drew⟩, rfl⟩ ?_
    simp only [List.take_succ_cons, List.take_zero, List.drop_succ_cons, List.drop_zero]
    repeat (go_big_quiet_step ((go_at_call 123; exact calls_lower _ (table_any _))))
    refine wpQuiet_nil ?_
    intro w1 hx1
    obtain ⟨x1, hx1⟩ := hx1
    have hb1 := x1.prop
    rw [← hx1] at hb1
    clear hx1 x1
    obtain ⟨hc1, hf1⟩ := bcell hb1
    have hs1 := hb1.size
    try simp at hs1
    try have hz0 : w.heap.size < w1.heap.size := by omega
    try have hz1 : w.heap.size + 1 < w1.heap.size := by omega
    try have hz2 : w.heap.size + 1 + 1 < w1.heap.size := by omega
    try have hz3 : w.heap.size + 1 + 1 + 1 < w1.heap.size := by omega
    try have hz4 : w.heap.size + 1 + 1 + 1 + 1 < w1.heap.size := by omega
    try have hz5 : w.heap.size + 1 + 1 + 1 + 1 + 1 < w1.heap.size := by omega
    go_wp2_with (go_at_call 134; refine (low_not hok (over_any _ _ _ _ _ fa fb h0)).mono ?_; rintro e w1 ⟨rfl, hb1⟩; obtain ⟨hc1, hf1⟩ := bcell hb1; have hs1 := hb1.size; (try simp at hs1); (try have hz0 : w.heap.size < w1.heap.size := by omega); (try have hz1 : w.heap.size + 1 < w1.heap.size := by omega); (try have hz2 : w.heap.size + 1 + 1 < w1.heap.size := by omega); (try have hz3 : w.heap.size + 1 + 1 + 1 < w1.heap.size := by omega); (try have hz4 : w.heap.size + 1 + 1 + 1 + 1 < w1.heap.size := by omega); (try have hz5 : w.heap.size + 1 + 1 + 1 + 1 + 1 < w1.heap.size := by omega))
    exact ⟨rfl, (lowEnd_not hok).symm, by ((repeat' (first | exact Below.refl _ _ | assumption | refine Below.setCell ?_ ?_ _ | refine bdrewN ?_ _ | refine Below.drew ?_ | refine Below.alloc ?_ ?_ _ | refine bbehind ?_ (by assumption) ?_)); all_goals first | (simp; done) | (simp; omega) | omega)⟩
end Go.Proofs.Ytgefidffhdanhaa
