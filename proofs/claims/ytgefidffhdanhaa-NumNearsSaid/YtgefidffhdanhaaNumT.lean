import Derived.Test.YtgefidffhdanhaaNumS
namespace Go.Proofs.Ytgefidffhdanhaa
open Go.RowKit Go.BigFrame

/-- the sum of the first numbers of a list. -/
def sumT (l : List (Int × Int)) : Nat → Int × Int × Int
  | 0 => (0, 1, 0)
  | k + 1 => if (sumT l k).2.2 = 0 then lowT ((sumT l k).1 * (l.getD k (0, 0)).2 + (l.getD k (0, 0)).1 * (sumT l k).2.1) ((sumT l k).2.1 * (l.getD k (0, 0)).2) else sumT l k

theorem sumT_next {l : List (Int × Int)} {x y n d : Int} {k : Nat} (h : sumT l k = (x, y, 0)) (h1 : (l.getD k (0, 0)).1 = n) (h2 : (l.getD k (0, 0)).2 = d) : sumT l (k + 1) = lowT (x * d + n * y) (y * d) := by
  show (if (sumT l k).2.2 = 0 then _ else _) = _
  rw [h, h1, h2]; rfl
theorem sumT_stop {l : List (Int × Int)} {k : Nat} (h : sumT l k = (0, 0, 8)) : sumT l (k + 1) = (0, 0, 8) := by
  show (if (sumT l k).2.2 = 0 then _ else _) = _
  rw [h]; rfl
theorem sum_over {l : List (Int × Int)} {k : Nat} (h : sumT l k = (0, 0, 8)) : ∀ j, sumT l (k + j) = (0, 0, 8)
  | 0 => h
  | j + 1 => sumT_stop (sum_over h j)
theorem sum_over' {l : List (Int × Int)} {k n : Nat} (h : sumT l k = (0, 0, 8)) (hn : k ≤ n) : sumT l n = (0, 0, 8) := by
  obtain ⟨j, rfl⟩ := Nat.exists_eq_add_of_le hn
  exact sum_over h j
theorem err_all {l : List (Int × Int)} (h : firstErr l = 0) : ∀ k, k < l.length → chk (l.getD k (0, 0)).1 (l.getD k (0, 0)).2 = 0 := by
  induction l with
  | nil => intro k hk; simp at hk
  | cons a t ih =>
    obtain ⟨n, d⟩ := a
    unfold firstErr at h
    split at h
    · rename_i hc
      intro k hk
      cases k with
      | zero => exact hc
      | succ k => exact ih h k (by simpa using hk)
    · rename_i hc; exact absurd h hc
theorem sum_is {l : List (Int × Int)} (h : ∀ k, k < l.length → chk (l.getD k (0, 0)).1 (l.getD k (0, 0)).2 = 0) (k : Nat) (hk : k ≤ l.length) : (∃ x y, sumT l k = (x, y, 0) ∧ chk x y = 0) ∨ sumT l k = (0, 0, 8) := by
  induction k with
  | zero => exact .inl ⟨0, 1, rfl, chk01⟩
  | succ k ih =>
    have hc := h k (by omega)
    rcases ih (by omega) with ⟨x, y, hs, hx⟩ | hs
    · rw [sumT_next hs rfl rfl]
      rcases low_is (n := x * (l.getD k (0, 0)).2 + (l.getD k (0, 0)).1 * y) (d := y * (l.getD k (0, 0)).2) (dens_ne (den_pos hx) (den_pos hc)) with ⟨u, v, h1, h2, _⟩ | ⟨h1, _⟩
      · exact .inl ⟨u, v, h1, h2⟩
      · exact .inr h1
    · exact .inr (sumT_stop hs)

structure TotRel (w : World) (x y : Int) (wr : World) : Prop where
  below : Below w.heap.size w wr
  size : w.heap.size + 1 < wr.heap.size
  r0 : wr.cell? ⟨w.heap.size, 0, none⟩ = some (.int .i64 0)
  r1 : wr.cell? ⟨w.heap.size, 1, none⟩ = some (.int .i64 0)
  p0 : wr.cell? ⟨w.heap.size + 1, 0, none⟩ = some (.int .i64 x)
  p1 : wr.cell? ⟨w.heap.size + 1, 1, none⟩ = some (.int .i64 y)
  f0 : wr.frozen? ⟨w.heap.size, 0, none⟩ = false
  f1 : wr.frozen? ⟨w.heap.size, 1, none⟩ = false
  g0 : wr.frozen? ⟨w.heap.size + 1, 0, none⟩ = false
  g1 : wr.frozen? ⟨w.heap.size + 1, 1, none⟩ = false

set_option maxRecDepth 100000 in
set_option maxHeartbeats 1000000 in
theorem total_any (b off cap : Nat) (l : List (Int × Int)) (w : World) (hl : l.length ≤ 1000000) (hb : b < w.heap.size) (hc : NumsAt w b off l) (hv : ∀ k, k < l.length → chk (l.getD k (0, 0)).1 (l.getD k (0, 0)).2 = 0) :
    Calls Try.prog 80 #[.slice (some ⟨b, off, none⟩) l.length cap] w fun e w' => e = powEnd (sumT l l.length) ∧ Below w.heap.size w w' := by
  have HC := Lib.hid hc; clear hc
  have HV := Lib.hid hv; clear hv
  go_enter Try.func80, Try.ntmps80
  go_wp2
  go_loopw [9] (fun i wr => ∃ (k : Nat) (x y : Int), i = .int .i64 k ∧ k ≤ l.length ∧ (sumT l k = (x, y, 0) ∧ chk x y = 0) ∧ TotRel w x y wr) (fun i _ => l.length - (intOf i).toNat)
  case atStart => exact ⟨0, 0, 1, rfl, Nat.zero_le _, ⟨rfl, chk01⟩, by ((repeat' (first | exact Below.refl _ _ | assumption | refine Below.setCell ?_ ?_ _ | refine bdrewN ?_ _ | refine Below.drew ?_ | refine Below.alloc ?_ ?_ _ | refine bbehind ?_ (by assumption) ?_)); all_goals first | (simp; done) | (simp; omega) | omega), by simp, by simp [go_sem], by simp [go_sem], by simp [go_sem], by simp [go_sem], by simp [go_sem], by simp [go_sem], by simp [go_sem], by simp [go_sem]⟩
  case round =>
    obtain ⟨k, x, y, rfl, hk, hp, ⟨hbw, hsz, r0, r1, p0, p1, f0, f1, g0, g1⟩⟩ := hrel
    have HP := Lib.hid hp; clear hp
    have hs0 : w.heap.size < wr.heap.size := by omega
    by_cases hlt : k < l.length
    · obtain ⟨c1, c2⟩ := HC.out k hlt
      have d1 : wr.cell? ⟨b, off + k * 2, none⟩ = some (.int .i64 (l.getD k (0, 0)).1) := by rw [hbw.cell (p := ⟨b, _, none⟩) hb]; exact c1
      have d2 : wr.cell? ⟨b, off + k * 2 + 1, none⟩ = some (.int .i64 (l.getD k (0, 0)).2) := by rw [hbw.cell (p := ⟨b, _, none⟩) hb]; exact c2
      have hvk := HV.out k hlt
      have HK := Lib.hid (fun (h : sumT l k = (x, y, 0)) => sumT_next (n := (l.getD k (0, 0)).1) (d := (l.getD k (0, 0)).2) h rfl rfl)
      have hbr : b < wr.heap.size := by omega
      clear c1 c2
      generalize (l.getD k (0, 0)).1 = n at *
      generalize (l.getD k (0, 0)).2 = d at *
      have HVK := Lib.hid hvk; clear hvk
      by_cases hok : lowOk (x * d + n * y) (y * d) = true
      · have HT := Lib.hid (fun w => low_yes hok (plus_any x y n d w (fit_of_chk HP.out.2) (fit_of_chk HVK.out)))
        have HN := Lib.hid ((HK.out HP.out.1).trans (lowT_yes hok))
        have HCC := Lib.hid (show chk (lowN (x * d + n * y) (y * d)) (lowD (x * d + n * y) (y * d)) = 0 by
          rcases low_is (n := x * d + n * y) (d := y * d) (dens_ne (den_pos HP.out.2) (den_pos HVK.out)) with ⟨u, v, h1, h2, _⟩ | ⟨h1, _⟩
          · rw [lowT_yes hok] at h1
            simp only [Prod.mk.injEq] at h1
            rw [h1.1, h1.2.1]; exact h2
          · rw [lowT_yes hok] at h1
            simp at h1)
        clear hok
        go_wp2_with fail
        refine (HT.out _).mono ?_; rintro e w1 ⟨rfl, hb1⟩; obtain ⟨hc1, hf1⟩ := bcell hb1; have hs1 := hb1.size; (try simp at hs1); (try have hz10 : w.heap.size < w1.heap.size := by omega); (try have hz11 : w.heap.size + 1 < w1.heap.size := by omega); (try have hz12 : w.heap.size + 1 + 1 < w1.heap.size := by omega); (try have hz13 : w.heap.size + 1 + 1 + 1 < w1.heap.size := by omega); (try have hz14 : w.heap.size + 1 + 1 + 1 + 1 < w1.heap.size := by omega); (try have hz15 : w.heap.size + 1 + 1 + 1 + 1 + 1 < w1.heap.size := by omega)
        go_wp2
        go_roundw
        case rel => exact ⟨k + 1, _, _, by go_num, by omega, ⟨HN.out, HCC.out⟩, by ((repeat' (first | exact Below.refl _ _ | assumption | refine Below.setCell ?_ ?_ _ | refine bdrewN ?_ _ | refine Below.drew ?_ | refine Below.alloc ?_ ?_ _ | refine bbehind ?_ (by assumption) ?_)); all_goals first | (simp; done) | (simp; omega) | omega), by (simp; omega), (by simp (maxDischargeDepth := 8) [go_sem, *]), (by simp (maxDischargeDepth := 8) [go_sem, *]), (by simp (maxDischargeDepth := 8) [go_sem, *]), (by simp (maxDischargeDepth := 8) [go_sem, *]), (by simp (maxDischargeDepth := 8) [go_sem, *]), (by simp (maxDischargeDepth := 8) [go_sem, *]), (by simp (maxDischargeDepth := 8) [go_sem, *]), (by simp (maxDischargeDepth := 8) [go_sem, *])⟩
        case measure => simp [intOf]; omega
      · have HT := Lib.hid (fun w => low_not hok (plus_any x y n d w (fit_of_chk HP.out.2) (fit_of_chk HVK.out)))
        have HN := Lib.hid (sum_over' ((HK.out HP.out.1).trans (lowT_not hok)) (show k + 1 ≤ l.length by omega))
        clear hok
        go_wp2_with fail
        refine (HT.out _).mono ?_; rintro e w1 ⟨rfl, hb1⟩; obtain ⟨hc1, hf1⟩ := bcell hb1; have hs1 := hb1.size; (try simp at hs1); (try have hz10 : w.heap.size < w1.heap.size := by omega); (try have hz11 : w.heap.size + 1 < w1.heap.size := by omega); (try have hz12 : w.heap.size + 1 + 1 < w1.heap.size := by omega); (try have hz13 : w.heap.size + 1 + 1 + 1 < w1.heap.size := by omega); (try have hz14 : w.heap.size + 1 + 1 + 1 + 1 < w1.heap.size := by omega); (try have hz15 : w.heap.size + 1 + 1 + 1 + 1 + 1 < w1.heap.size := by omega)
        go_wp2
        exact ⟨rfl, by rw [HN.out]; rfl, by ((repeat' (first | exact Below.refl _ _ | assumption | refine Below.setCell ?_ ?_ _ | refine bdrewN ?_ _ | refine Below.drew ?_ | refine Below.alloc ?_ ?_ _ | refine bbehind ?_ (by assumption) ?_)); all_goals first | (simp; done) | (simp; omega) | omega)⟩
    · have he : k = l.length := by omega
      have HN := Lib.hid (show powEnd (sumT l l.length) = .returned (.agg #[.int .i64 x, .int .i64 y]) by rw [← he, HP.out.1]; rfl)
      go_wp2
      refine bodyPost_ret (v := .agg #[.int .i64 x, .int .i64 y]) (by simp (maxDischargeDepth := 8) [results, Try.results80, go_sem, *]) rfl ?_
      exact ⟨HN.out.symm, by ((repeat' (first | exact Below.refl _ _ | assumption | refine Below.setCell ?_ ?_ _ | refine bdrewN ?_ _ | refine Below.drew ?_ | refine Below.alloc ?_ ?_ _ | refine bbehind ?_ (by assumption) ?_)); all_goals first | (simp; done) | (simp; omega) | omega)⟩

set_option maxRecDepth 100000 in
set_option maxHeartbeats 1000000 in
theorem total_nil (a : Option Addr) (cap : Nat) (w : World) :
    Calls Try.prog 80 #[.slice a 0 cap] w fun e w' => e = powEnd (0, 1, 0) ∧ Below w.heap.size w w' := by
  go_enter Try.func80, Try.ntmps80
  go_wp2
  go_loopw [9] (fun i wr => i = .int .i64 0 ∧ TotRel w 0 1 wr) (fun i _ => 0)
  case atStart => exact ⟨rfl, by ((repeat' (first | exact Below.refl _ _ | assumption | refine Below.setCell ?_ ?_ _ | refine bdrewN ?_ _ | refine Below.drew ?_ | refine Below.alloc ?_ ?_ _ | refine bbehind ?_ (by assumption) ?_)); all_goals first | (simp; done) | (simp; omega) | omega), by simp, by simp [go_sem], by simp [go_sem], by simp [go_sem], by simp [go_sem], by simp [go_sem], by simp [go_sem], by simp [go_sem], by simp [go_sem]⟩
  case round =>
    obtain ⟨rfl, ⟨hbw, hsz, r0, r1, p0, p1, f0, f1, g0, g1⟩⟩ := hrel
    have hs0 : w.heap.size < wr.heap.size := by omega
    go_wp2
    refine bodyPost_ret (v := .agg #[.int .i64 0, .int .i64 1]) (by simp (maxDischargeDepth := 8) [results, Try.results80, go_sem, *]) rfl ?_
    exact ⟨rfl, by ((repeat' (first | exact Below.refl _ _ | assumption | refine Below.setCell ?_ ?_ _ | refine bdrewN ?_ _ | refine Below.drew ?_ | refine Below.alloc ?_ ?_ _ | refine bbehind ?_ (by assumption) ?_)); all_goals first | (simp; done) | (simp; omega) | omega)⟩
end Go.Proofs.Ytgefidffhdanhaa
