import Derived.Test.YtgefidffhdanhaaMathB
namespace Go.Proofs.Ytgefidffhdanhaa
open Go.RowKit Go.BigFrame

/-- a power: the product of the power before and the base. -/
def powT (an ad : Int) : Nat → Int × Int × Int
  | 0 => (1, 1, 0)
  | k + 1 => if (powT an ad k).2.2 = 0 then lowT ((powT an ad k).1 * an) ((powT an ad k).2.1 * ad) else powT an ad k

theorem powT_next {an ad x y : Int} {k : Nat} (h : powT an ad k = (x, y, 0)) : powT an ad (k + 1) = lowT (x * an) (y * ad) := by
  show (if (powT an ad k).2.2 = 0 then _ else _) = _
  rw [h]; rfl
theorem powT_stop {an ad : Int} {k : Nat} (h : powT an ad k = (0, 0, 8)) : powT an ad (k + 1) = (0, 0, 8) := by
  show (if (powT an ad k).2.2 = 0 then _ else _) = _
  rw [h]; rfl
theorem pow_is {an ad : Int} (ha : chk an ad = 0) (k : Nat) : (∃ x y, powT an ad k = (x, y, 0) ∧ chk x y = 0) ∨ powT an ad k = (0, 0, 8) := by
  induction k with
  | zero => exact .inl ⟨1, 1, rfl, chk11⟩
  | succ k ih =>
    rcases ih with ⟨x, y, h, hc⟩ | h
    · rw [powT_next h]
      rcases low_is (n := x * an) (d := y * ad) (dens_ne (den_pos hc) (den_pos ha)) with ⟨u, v, h1, h2, _⟩ | ⟨h1, _⟩
      · exact .inl ⟨u, v, h1, h2⟩
      · exact .inr h1
    · exact .inr (powT_stop h)
theorem pow_over {an ad : Int} {k : Nat} (h : powT an ad k = (0, 0, 8)) : ∀ j, powT an ad (k + j) = (0, 0, 8)
  | 0 => h
  | j + 1 => powT_stop (pow_over h j)
theorem pow_over' {an ad : Int} {k n : Nat} (h : powT an ad k = (0, 0, 8)) (hn : k ≤ n) : powT an ad n = (0, 0, 8) := by
  obtain ⟨j, rfl⟩ := Nat.exists_eq_add_of_le hn
  exact pow_over h j

/-- how a power ends. -/
def powEnd (r : Int × Int × Int) : Ending := if r.2.2 = 0 then .returned (.agg #[.int .i64 r.1, .int .i64 r.2.1]) else .panicked [{ v := .iface 107 (.agg #[]), recovered := false }]

theorem powEnd_ok (x y : Int) : powEnd (x, y, 0) = .returned (.agg #[.int .i64 x, .int .i64 y]) := rfl
theorem powEnd_no : powEnd (0, 0, 8) = .panicked [{ v := .iface 107 (.agg #[]), recovered := false }] := rfl
structure PowRel (w : World) (an ad x y : Int) (wr : World) : Prop where
  below : Below w.heap.size w wr
  size : w.heap.size + 1 + 1 < wr.heap.size
  a0 : wr.cell? ⟨w.heap.size, 0, none⟩ = some (.int .i64 an)
  a1 : wr.cell? ⟨w.heap.size, 1, none⟩ = some (.int .i64 ad)
  r0 : wr.cell? ⟨w.heap.size + 1, 0, none⟩ = some (.int .i64 0)
  r1 : wr.cell? ⟨w.heap.size + 1, 1, none⟩ = some (.int .i64 0)
  p0 : wr.cell? ⟨w.heap.size + 1 + 1, 0, none⟩ = some (.int .i64 x)
  p1 : wr.cell? ⟨w.heap.size + 1 + 1, 1, none⟩ = some (.int .i64 y)
  f0 : wr.frozen? ⟨w.heap.size + 1, 0, none⟩ = false
  f1 : wr.frozen? ⟨w.heap.size + 1, 1, none⟩ = false
  g0 : wr.frozen? ⟨w.heap.size + 1 + 1, 0, none⟩ = false
  g1 : wr.frozen? ⟨w.heap.size + 1 + 1, 1, none⟩ = false

set_option maxRecDepth 100000 in
set_option maxHeartbeats 1000000 in
theorem power_any (an ad : Int) (n : Nat) (w : World) (ha : chk an ad = 0) (hn : n ≤ 1000) :
    Calls Try.prog 83 #[.agg #[.int .i64 an, .int .i64 ad], .int .i64 n] w fun e w' => e = powEnd (powT an ad n) ∧ Below w.heap.size w w' := by
  have HA := Lib.hid ha; clear ha
  go_enter Try.func83, Try.ntmps83
  go_wp2
  go_loopw [8] (fun i wr => ∃ (k : Nat) (x y : Int), i = .int .i64 k ∧ k ≤ n ∧ (powT an ad k = (x, y, 0) ∧ chk x y = 0) ∧ PowRel w an ad x y wr) (fun i _ => n - (intOf i).toNat)
  case atStart => exact ⟨0, 1, 1, rfl, Nat.zero_le _, ⟨rfl, chk11⟩, by ((repeat' (first | exact Below.refl _ _ | assumption | refine Below.setCell ?_ ?_ _ | refine bdrewN ?_ _ | refine Below.drew ?_ | refine Below.alloc ?_ ?_ _ | refine bbehind ?_ (by assumption) ?_)); all_goals first | (simp; done) | (simp; omega) | omega), by simp, by simp [go_sem], by simp [go_sem], by simp [go_sem], by simp [go_sem], by simp [go_sem], by simp [go_sem], by simp [go_sem], by simp [go_sem], by simp [go_sem], by simp [go_sem]⟩
  case round =>
    obtain ⟨k, x, y, rfl, hk, hp, ⟨hb, hsz, a0, a1, r0, r1, p0, p1, f0, f1, g0, g1⟩⟩ := hrel
    have HP := Lib.hid hp; clear hp
    have hs0 : w.heap.size < wr.heap.size := by omega
    have hs1 : w.heap.size + 1 < wr.heap.size := by omega
    by_cases hlt : k < n
    · by_cases hok : lowOk (x * an) (y * ad) = true
      · have HT := Lib.hid (fun w => low_yes hok (times_any x y an ad w (fit_of_chk HP.out.2) (fit_of_chk HA.out)))
        have HN := Lib.hid ((powT_next HP.out.1).trans (lowT_yes hok))
        have HC := Lib.hid (show chk (lowN (x * an) (y * ad)) (lowD (x * an) (y * ad)) = 0 by
          rcases low_is (n := x * an) (d := y * ad) (dens_ne (den_pos HP.out.2) (den_pos HA.out)) with ⟨u, v, h1, h2, _⟩ | ⟨h1, _⟩
          · rw [lowT_yes hok] at h1
            simp only [Prod.mk.injEq] at h1
            rw [h1.1, h1.2.1]; exact h2
          · rw [lowT_yes hok] at h1
            simp at h1)
        clear hok
        go_wp2_with fail
        refine (HT.out _).mono ?_; rintro e w1 ⟨rfl, hb1⟩; obtain ⟨hc1, hf1⟩ := bcell hb1; have hs1 := hb1.size; (try simp at hs1); (try have hz10 : w.heap.size < w1.heap.size := by omega); (try have hz11 : w.heap.size + 1 < w1.heap.size := by omega); (try have hz12 : w.heap.size + 1 + 1 < w1.heap.size := by omega); (try have hz13 : w.heap.size + 1 + 1 + 1 < w1.heap.size := by omega); (try have hz14 : w.heap.size + 1 + 1 + 1 + 1 < w1.heap.size := by omega); (try have hz15 : w.heap.size + 1 + 1 + 1 + 1 + 1 < w1.heap.size := by omega)
        go_wp2
        go_roundw
        case rel => exact ⟨k + 1, _, _, by go_num, by omega, ⟨HN.out, HC.out⟩, by ((repeat' (first | exact Below.refl _ _ | assumption | refine Below.setCell ?_ ?_ _ | refine bdrewN ?_ _ | refine Below.drew ?_ | refine Below.alloc ?_ ?_ _ | refine bbehind ?_ (by assumption) ?_)); all_goals first | (simp; done) | (simp; omega) | omega), by (simp; omega), (by simp (maxDischargeDepth := 8) [go_sem, *]), (by simp (maxDischargeDepth := 8) [go_sem, *]), (by simp (maxDischargeDepth := 8) [go_sem, *]), (by simp (maxDischargeDepth := 8) [go_sem, *]), (by simp (maxDischargeDepth := 8) [go_sem, *]), (by simp (maxDischargeDepth := 8) [go_sem, *]), (by simp (maxDischargeDepth := 8) [go_sem, *]), (by simp (maxDischargeDepth := 8) [go_sem, *]), (by simp (maxDischargeDepth := 8) [go_sem, *]), (by simp (maxDischargeDepth := 8) [go_sem, *])⟩
        case measure => simp [intOf]; omega
      · have HT := Lib.hid (fun w => low_not hok (times_any x y an ad w (fit_of_chk HP.out.2) (fit_of_chk HA.out)))
        have HN := Lib.hid (pow_over' ((powT_next HP.out.1).trans (lowT_not hok)) (show k + 1 ≤ n by omega))
        clear hok
        go_wp2_with fail
        refine (HT.out _).mono ?_; rintro e w1 ⟨rfl, hb1⟩; obtain ⟨hc1, hf1⟩ := bcell hb1; have hs1 := hb1.size; (try simp at hs1); (try have hz10 : w.heap.size < w1.heap.size := by omega); (try have hz11 : w.heap.size + 1 < w1.heap.size := by omega); (try have hz12 : w.heap.size + 1 + 1 < w1.heap.size := by omega); (try have hz13 : w.heap.size + 1 + 1 + 1 < w1.heap.size := by omega); (try have hz14 : w.heap.size + 1 + 1 + 1 + 1 < w1.heap.size := by omega); (try have hz15 : w.heap.size + 1 + 1 + 1 + 1 + 1 < w1.heap.size := by omega)
        go_wp2
        exact ⟨rfl, by rw [HN.out]; rfl, by ((repeat' (first | exact Below.refl _ _ | assumption | refine Below.setCell ?_ ?_ _ | refine bdrewN ?_ _ | refine Below.drew ?_ | refine Below.alloc ?_ ?_ _ | refine bbehind ?_ (by assumption) ?_)); all_goals first | (simp; done) | (simp; omega) | omega)⟩
    · have he : k = n := by omega
      subst he
      have HN := Lib.hid (show powEnd (powT an ad k) = .returned (.agg #[.int .i64 x, .int .i64 y]) by rw [HP.out.1]; rfl)
      go_wp2
      refine bodyPost_ret (v := .agg #[.int .i64 x, .int .i64 y]) (by simp (maxDischargeDepth := 8) [results, Try.results83, go_sem, *]) rfl ?_
      exact ⟨HN.out.symm, by ((repeat' (first | exact Below.refl _ _ | assumption | refine Below.setCell ?_ ?_ _ | refine bdrewN ?_ _ | refine Below.drew ?_ | refine Below.alloc ?_ ?_ _ | refine bbehind ?_ (by assumption) ?_)); all_goals first | (simp; done) | (simp; omega) | omega)⟩

set_option maxHeartbeats 1000000 in
theorem powClo_any (b0 b1 : Nat) (an ad : Int) (n : Nat) (w : World) (ha : chk an ad = 0) (hn : n ≤ 1000)
    (c1 : w.cell? ⟨b0, 0, none⟩ = some (.int .i64 an)) (c2 : w.cell? ⟨b0, 1, none⟩ = some (.int .i64 ad)) (c3 : w.cell? ⟨b1, 0, none⟩ = some (.int .i64 n)) (k0 : b0 < w.heap.size) (k1 : b1 < w.heap.size) :
    Calls Try.prog 82 #[.pointer (some ⟨b0, 0, none⟩), .pointer (some ⟨b1, 0, none⟩)] w fun e w' => e = powEnd (powT an ad n) ∧ Below w.heap.size w w' := by
  have k2 : b0 ≤ w.heap.size := by omega
  have k3 : b1 ≤ w.heap.size := by omega
  have P := Lib.hid (fun w => power_any an ad n w ha hn)
  rcases pow_is ha n with ⟨x, y, h, -⟩ | h
  · rw [h, powEnd_ok] at P ⊢
    clear h ha
    go_enter Try.func82, Try.ntmps82
    go_wp2_with fail
    refine (P.out _).mono ?_; rintro e w1 ⟨rfl, hb1⟩; obtain ⟨hc1, hf1⟩ := bcell hb1; have hs1 := hb1.size; (try simp at hs1); (try have hz10 : w.heap.size < w1.heap.size := by omega); (try have hz11 : w.heap.size + 1 < w1.heap.size := by omega); (try have hz12 : w.heap.size + 1 + 1 < w1.heap.size := by omega); (try have hz13 : w.heap.size + 1 + 1 + 1 < w1.heap.size := by omega); (try have hz14 : w.heap.size + 1 + 1 + 1 + 1 < w1.heap.size := by omega); (try have hz15 : w.heap.size + 1 + 1 + 1 + 1 + 1 < w1.heap.size := by omega)
    go_wp2
    refine bodyPost_ret (v := .agg #[.int .i64 x, .int .i64 y]) (by simp (maxDischargeDepth := 8) [results, Try.results82, go_sem, *]) rfl ?_
    exact ⟨rfl, by ((repeat' (first | exact Below.refl _ _ | assumption | refine Below.setCell ?_ ?_ _ | refine bdrewN ?_ _ | refine Below.drew ?_ | refine Below.alloc ?_ ?_ _ | refine bbehind ?_ (by assumption) ?_)); all_goals first | (simp; done) | (simp; omega) | omega)⟩
  · rw [h, powEnd_no] at P ⊢
    clear h ha
    go_enter Try.func82, Try.ntmps82
    go_wp2_with fail
    refine (P.out _).mono ?_; rintro e w1 ⟨rfl, hb1⟩; obtain ⟨hc1, hf1⟩ := bcell hb1; have hs1 := hb1.size; (try simp at hs1); (try have hz10 : w.heap.size < w1.heap.size := by omega); (try have hz11 : w.heap.size + 1 < w1.heap.size := by omega); (try have hz12 : w.heap.size + 1 + 1 < w1.heap.size := by omega); (try have hz13 : w.heap.size + 1 + 1 + 1 < w1.heap.size := by omega); (try have hz14 : w.heap.size + 1 + 1 + 1 + 1 < w1.heap.size := by omega); (try have hz15 : w.heap.size + 1 + 1 + 1 + 1 + 1 < w1.heap.size := by omega)
    go_wp2
    exact ⟨rfl, rfl, by ((repeat' (first | exact Below.refl _ _ | assumption | refine Below.setCell ?_ ?_ _ | refine bdrewN ?_ _ | refine Below.drew ?_ | refine Below.alloc ?_ ?_ _ | refine bbehind ?_ (by assumption) ?_)); all_goals first | (simp; done) | (simp; omega) | omega)⟩

theorem bc_pow (b0 b1 : Nat) (an ad : Int) (n : Nat) (w : World) (ha : chk an ad = 0) (hn : n ≤ 1000)
    (c1 : w.cell? ⟨b0, 0, none⟩ = some (.int .i64 an)) (c2 : w.cell? ⟨b0, 1, none⟩ = some (.int .i64 ad)) (c3 : w.cell? ⟨b1, 0, none⟩ = some (.int .i64 n)) (k0 : b0 < w.heap.size) (k1 : b1 < w.heap.size) :
    Calls Try.prog 70 #[.func (.func 82) #[] #[.pointer (some ⟨b0, 0, none⟩), .pointer (some ⟨b1, 0, none⟩)]] w fun e w' => e = .returned (.tuple #[.agg #[.int .i64 (powT an ad n).1, .int .i64 (powT an ad n).2.1], .int .i64 (powT an ad n).2.2]) ∧ Below w.heap.size w w' := by
  have hf : ∀ w1, Below w.heap.size w w1 → Calls Try.prog 82 #[.pointer (some ⟨b0, 0, none⟩), .pointer (some ⟨b1, 0, none⟩)] w1 fun e w' => e = powEnd (powT an ad n) ∧ Below w1.heap.size w1 w' := fun w1 hw => by
    obtain ⟨hc, _⟩ := bcell hw
    have hz := hw.size
    exact powClo_any b0 b1 an ad n w1 ha hn ((hc _ _ k0).trans c1) ((hc _ _ k0).trans c2) ((hc _ _ k1).trans c3) (by omega) (by omega)
  rcases pow_is ha n with ⟨x, y, h, -⟩ | h
  · rw [h] at hf ⊢
    rw [powEnd_ok] at hf
    exact bounded_ret _ _ _ _ w (fun w1 => by kernel_rfl) hf
  · rw [h] at hf ⊢
    rw [powEnd_no] at hf
    exact bounded_beyond _ _ w (fun w1 => by kernel_rfl) hf

/-- Pow. -/
def powP (an ad n : Int) : Int × Int × Int := if chk an ad = 0 then (if 0 ≤ n ∧ n ≤ 30 then powT an ad n.toNat else (0, 0, 3)) else (0, 0, chk an ad)

set_option maxRecDepth 100000 in
set_option maxHeartbeats 1600000 in
theorem pow_any (an ad n : Int) (w : World) :
    Calls Try.prog 37 #[.agg #[.int .i64 an, .int .i64 ad], .int .i64 n] w fun e w' => e = .returned (.tuple #[.agg #[.int .i64 (powP an ad n).1, .int .i64 (powP an ad n).2.1], .int .i64 (powP an ad n).2.2]) ∧ Below w.heap.size w w' := by
  have hmf : ∀ (fn : Fn) (first cap : Array Value) (w : World), (Instr.makeFunc fn first cap).run Try.prog w = .ok (.func fn first cap) w := fun _ _ _ _ => rfl
  unfold powP
  by_cases hA : chk an ad = 0
  · rw [if_pos hA]
    by_cases hn : 0 ≤ n ∧ n ≤ 30
    · rw [if_pos hn]
      obtain ⟨m, rfl⟩ := Int.eq_ofNat_of_zero_le hn.1
      rw [Int.toNat_natCast]
      have hm : m ≤ 30 := by omega
      have D := Lib.hid (fun b0 b1 w => bc_pow b0 b1 an ad m w hA (by omega))
      clear hn
      go_enter Try.func37, Try.ntmps37
      go_wp2_with (first | (go_at_call 16; refine (check_any _ _ _).mono ?_; rintro e w1 ⟨rfl, hb1⟩; obtain ⟨hc1, hf1⟩ := bcell hb1; have hs1 := hb1.size; (try simp at hs1); (try have hz0 : w.heap.size < w1.heap.size := by omega); (try have hz1 : w.heap.size + 1 < w1.heap.size := by omega); (try have hz2 : w.heap.size + 1 + 1 < w1.heap.size := by omega); (try have hz3 : w.heap.size + 1 + 1 + 1 < w1.heap.size := by omega); (try have hz4 : w.heap.size + 1 + 1 + 1 + 1 < w1.heap.size := by omega); (try have hz5 : w.heap.size + 1 + 1 + 1 + 1 + 1 < w1.heap.size := by omega)) | (go_at_call 70; refine (D.out _ _ _ (by simp (maxDischargeDepth := 8) [go_sem, *]) (by simp (maxDischargeDepth := 8) [go_sem, *]) (by simp (maxDischargeDepth := 8) [go_sem, *]) (by first | assumption | (simp; done) | (simp; omega) | omega) (by first | assumption | (simp; done) | (simp; omega) | omega)).mono ?_; rintro e w1 ⟨rfl, hb1⟩; obtain ⟨hc1, hf1⟩ := bcell hb1; have hs1 := hb1.size; (try simp at hs1); (try have hz0 : w.heap.size < w1.heap.size := by omega); (try have hz1 : w.heap.size + 1 < w1.heap.size := by omega); (try have hz2 : w.heap.size + 1 + 1 < w1.heap.size := by omega); (try have hz3 : w.heap.size + 1 + 1 + 1 < w1.heap.size := by omega); (try have hz4 : w.heap.size + 1 + 1 + 1 + 1 < w1.heap.size := by omega); (try have hz5 : w.heap.size + 1 + 1 + 1 + 1 + 1 < w1.heap.size := by omega)))
      refine bodyPost_ret (v := .tuple #[.agg #[.int .i64 (powT an ad m).1, .int .i64 (powT an ad m).2.1], .int .i64 (powT an ad m).2.2]) (by simp (maxDischargeDepth := 8) [results, Try.results37, go_sem, *]) rfl ?_
      exact ⟨rfl, by ((repeat' (first | exact Below.refl _ _ | assumption | refine Below.setCell ?_ ?_ _ | refine bdrewN ?_ _ | refine Below.drew ?_ | refine Below.alloc ?_ ?_ _ | refine bbehind ?_ (by assumption) ?_)); all_goals first | (simp; done) | (simp; omega) | omega)⟩
    · rw [if_neg hn]
      by_cases h0 : n < 0
      · clear hn
        go_enter Try.func37, Try.ntmps37
        go_wp2_with (go_at_call 16; refine (check_any _ _ _).mono ?_; rintro e w1 ⟨rfl, hb1⟩; obtain ⟨hc1, hf1⟩ := bcell hb1; have hs1 := hb1.size; (try simp at hs1); (try have hz0 : w.heap.size < w1.heap.size := by omega); (try have hz1 : w.heap.size + 1 < w1.heap.size := by omega); (try have hz2 : w.heap.size + 1 + 1 < w1.heap.size := by omega); (try have hz3 : w.heap.size + 1 + 1 + 1 < w1.heap.size := by omega); (try have hz4 : w.heap.size + 1 + 1 + 1 + 1 < w1.heap.size := by omega); (try have hz5 : w.heap.size + 1 + 1 + 1 + 1 + 1 < w1.heap.size := by omega))
        refine bodyPost_ret (v := .tuple #[.agg #[.int .i64 0, .int .i64 0], .int .i64 3]) (by simp (maxDischargeDepth := 8) [results, Try.results37, go_sem, *]) rfl ?_
        exact ⟨rfl, by ((repeat' (first | exact Below.refl _ _ | assumption | refine Below.setCell ?_ ?_ _ | refine bdrewN ?_ _ | refine Below.drew ?_ | refine Below.alloc ?_ ?_ _ | refine bbehind ?_ (by assumption) ?_)); all_goals first | (simp; done) | (simp; omega) | omega)⟩
      · have h1 : 30 < n := by omega
        clear hn
        go_enter Try.func37, Try.ntmps37
        go_wp2_with (go_at_call 16; refine (check_any _ _ _).mono ?_; rintro e w1 ⟨rfl, hb1⟩; obtain ⟨hc1, hf1⟩ := bcell hb1; have hs1 := hb1.size; (try simp at hs1); (try have hz0 : w.heap.size < w1.heap.size := by omega); (try have hz1 : w.heap.size + 1 < w1.heap.size := by omega); (try have hz2 : w.heap.size + 1 + 1 < w1.heap.size := by omega); (try have hz3 : w.heap.size + 1 + 1 + 1 < w1.heap.size := by omega); (try have hz4 : w.heap.size + 1 + 1 + 1 + 1 < w1.heap.size := by omega); (try have hz5 : w.heap.size + 1 + 1 + 1 + 1 + 1 < w1.heap.size := by omega))
        refine bodyPost_ret (v := .tuple #[.agg #[.int .i64 0, .int .i64 0], .int .i64 3]) (by simp (maxDischargeDepth := 8) [results, Try.results37, go_sem, *]) rfl ?_
        exact ⟨rfl, by ((repeat' (first | exact Below.refl _ _ | assumption | refine Below.setCell ?_ ?_ _ | refine bdrewN ?_ _ | refine Below.drew ?_ | refine Below.alloc ?_ ?_ _ | refine bbehind ?_ (by assumption) ?_)); all_goals first | (simp; done) | (simp; omega) | omega)⟩
  · have hA' : (chk an ad != 0) = true := by simpa using hA
    rw [if_neg hA]
    have HA := Lib.hid hA; clear hA
    go_enter Try.func37, Try.ntmps37
    go_wp2_with (go_at_call 16; refine (check_any _ _ _).mono ?_; rintro e w1 ⟨rfl, hb1⟩; obtain ⟨hc1, hf1⟩ := bcell hb1; have hs1 := hb1.size; (try simp at hs1); (try have hz0 : w.heap.size < w1.heap.size := by omega); (try have hz1 : w.heap.size + 1 < w1.heap.size := by omega); (try have hz2 : w.heap.size + 1 + 1 < w1.heap.size := by omega); (try have hz3 : w.heap.size + 1 + 1 + 1 < w1.heap.size := by omega); (try have hz4 : w.heap.size + 1 + 1 + 1 + 1 < w1.heap.size := by omega); (try have hz5 : w.heap.size + 1 + 1 + 1 + 1 + 1 < w1.heap.size := by omega))
    refine bodyPost_ret (v := .tuple #[.agg #[.int .i64 0, .int .i64 0], .int .i64 (chk an ad)]) (by simp (maxDischargeDepth := 8) [results, Try.results37, go_sem, *]) rfl ?_
    exact ⟨rfl, by ((repeat' (first | exact Below.refl _ _ | assumption | refine Below.setCell ?_ ?_ _ | refine bdrewN ?_ _ | refine Below.drew ?_ | refine Below.alloc ?_ ?_ _ | refine bbehind ?_ (by assumption) ?_)); all_goals first | (simp; done) | (simp; omega) | omega)⟩
end Go.Proofs.Ytgefidffhdanhaa
