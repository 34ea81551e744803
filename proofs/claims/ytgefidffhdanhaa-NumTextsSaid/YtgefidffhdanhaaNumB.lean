import Derived.Test.YtgefidffhdanhaaNumA
namespace Go.Proofs.Ytgefidffhdanhaa
open Go.RowKit

theorem gcdM_pos (n d : Int) (h : ¬ d = 0) : 1 ≤ gcdM n d := by
  unfold gcdM
  have : Int.gcd n d ≠ 0 := by rw [Ne, Int.gcd_eq_zero_iff]; omega
  omega

theorem gcdM_le (n d : Int) (h : ¬ d = 0) : gcdM n d ≤ d.natAbs := by
  unfold gcdM
  have := Int.gcd_le_natAbs_right n h
  omega

theorem tdiv_bd (n g B : Int) (h1 : -B ≤ n) (h2 : n ≤ B) : -B ≤ n.tdiv g ∧ n.tdiv g ≤ B := by
  have h : (n.tdiv g).natAbs ≤ n.natAbs := by rw [Int.natAbs_tdiv]; exact Nat.div_le_self _ _
  omega

def lowD (n d : Int) : Int := (d.natAbs : Int).tdiv (gcdM n d)
def lowN (n d : Int) : Int := (if d < 0 then -n else n).tdiv (gcdM n d)
def lowOk (n d : Int) : Bool := decide (-1000000000 ≤ lowN n d ∧ lowN n d ≤ 1000000000 ∧ lowD n d ≤ 1000000000)


theorem lowN_neg {n d : Int} (h : d < 0) : lowN n d = -n.tdiv (gcdM n d) := by unfold lowN; rw [if_pos h, Int.neg_tdiv]
theorem lowN_pos {n d : Int} (h : ¬ d < 0) : lowN n d = n.tdiv (gcdM n d) := by unfold lowN; rw [if_neg h]
theorem lowD_neg {n d : Int} (h : d < 0) : lowD n d = -d.tdiv (gcdM n d) := by unfold lowD; rw [show (d.natAbs : Int) = -d by omega, Int.neg_tdiv]
theorem lowD_pos {n d : Int} (h : ¬ d < 0) : lowD n d = d.tdiv (gcdM n d) := by unfold lowD; rw [show (d.natAbs : Int) = d by omega]
theorem lowD_div {n d : Int} (h : ¬ d < 0) (_hd : ¬ d = 0) : lowD n d = d / gcdM n d := by rw [lowD_pos h, Int.tdiv_eq_ediv_of_nonneg (by omega)]

/-- how a number in lowest terms ends: it, or the panic of what is beyond the bounds. -/
def lowEnd (n d : Int) : Ending := if lowOk n d then .returned (.agg #[.int .i64 (lowN n d), .int .i64 (lowD n d)]) else .panicked [{ v := .iface 107 (.agg #[]), recovered := false }]
theorem lowEnd_ok {n d x y : Int} (hx : x = lowN n d) (hy : y = lowD n d) (h1 : -1000000000 ≤ x) (h2 : x ≤ 1000000000) (h3 : y ≤ 1000000000) : Ending.returned (.agg #[.int .i64 x, .int .i64 y]) = lowEnd n d := by
  subst hx hy; unfold lowEnd; rw [if_pos]; exact decide_eq_true ⟨h1, h2, h3⟩
theorem lowEnd_no {n d : Int} (h : ¬ (-1000000000 ≤ lowN n d ∧ lowN n d ≤ 1000000000 ∧ lowD n d ≤ 1000000000)) : Ending.panicked [{ v := .iface 107 (.agg #[]), recovered := false }] = lowEnd n d := by
  unfold lowEnd; rw [if_neg]; unfold lowOk; simpa using h

set_option maxHeartbeats 400000 in
theorem lowest_any (n d : Int) (w : World) (h1 : -9223372036854775808 < n) (h2 : n ≤ 9223372036854775807)
   (h3 : -9223372036854775808 < d) (h4 : d ≤ 9223372036854775807) (hd : ¬ d = 0) :
    Calls Try.prog 72 #[.int .i64 n, .int .i64 d] w fun e w' => e = lowEnd n d ∧ Below w.heap.size w w' := by
  have g1 := gcdM_pos n d hd
  have g2 := gcdM_le n d hd
  have b1 := tdiv_bd n (gcdM n d) 9223372036854775807 (by omega) (by omega)
  have b2 := tdiv_bd d (gcdM n d) 9223372036854775807 (by omega) (by omega)
  have g3 : ¬ gcdM n d = 0 := by omega
  by_cases h : d < 0
  · have c1 := Lib.hid (lowN_neg (n := n) h)
    have c2 := Lib.hid (lowD_neg (n := n) h)
    go_enter Try.func72, Try.ntmps72
    go_wp2_with (go_at_call 67; refine (gcd_any _ _ _ (by omega) (by omega) (by omega) (by omega)).mono ?_; rintro e w1 ⟨rfl, hb1⟩; obtain ⟨hc1, hf1⟩ := bcell hb1; have hs1 := hb1.size; (try simp at hs1); (try have hz0 : w.heap.size < w1.heap.size := by omega); (try have hz1 : w.heap.size + 1 < w1.heap.size := by omega); (try have hz2 : w.heap.size + 1 + 1 < w1.heap.size := by omega); (try have hz3 : w.heap.size + 1 + 1 + 1 < w1.heap.size := by omega); (try have hz4 : w.heap.size + 1 + 1 + 1 + 1 < w1.heap.size := by omega); (try have hz5 : w.heap.size + 1 + 1 + 1 + 1 + 1 < w1.heap.size := by omega))
    go_quiet (fail)
    go_wp2
    · exact ⟨rfl, lowEnd_no (by rw [c1.out, c2.out]; omega), by ((repeat' (first | exact Below.refl _ _ | assumption | refine Below.setCell ?_ ?_ _ | refine bdrewN ?_ _ | refine Below.drew ?_ | refine Below.alloc ?_ ?_ _ | refine bbehind ?_ (by assumption) ?_)); all_goals first | (simp; done) | (simp; omega) | omega)⟩
    · refine bodyPost_ret (v := .agg #[.int .i64 (-n.tdiv (gcdM n d)), .int .i64 (-d.tdiv (gcdM n d))]) (by simp (maxDischargeDepth := 8) [results, Try.results72, go_sem, *]) rfl ?_
      exact ⟨lowEnd_ok c1.out.symm c2.out.symm (by omega) (by omega) (by omega), by ((repeat' (first | exact Below.refl _ _ | assumption | refine Below.setCell ?_ ?_ _ | refine bdrewN ?_ _ | refine Below.drew ?_ | refine Below.alloc ?_ ?_ _ | refine bbehind ?_ (by assumption) ?_)); all_goals first | (simp; done) | (simp; omega) | omega)⟩
    all_goals exact ⟨rfl, lowEnd_no (by rw [c1.out, c2.out]; omega), by ((repeat' (first | exact Below.refl _ _ | assumption | refine Below.setCell ?_ ?_ _ | refine bdrewN ?_ _ | refine Below.drew ?_ | refine Below.alloc ?_ ?_ _ | refine bbehind ?_ (by assumption) ?_)); all_goals first | (simp; done) | (simp; omega) | omega)⟩
  · have c1 := Lib.hid (lowN_pos (n := n) h)
    have c2 := Lib.hid (lowD_pos (n := n) h)
    go_enter Try.func72, Try.ntmps72
    go_wp2_with (go_at_call 67; refine (gcd_any _ _ _ (by omega) (by omega) (by omega) (by omega)).mono ?_; rintro e w1 ⟨rfl, hb1⟩; obtain ⟨hc1, hf1⟩ := bcell hb1; have hs1 := hb1.size; (try simp at hs1); (try have hz0 : w.heap.size < w1.heap.size := by omega); (try have hz1 : w.heap.size + 1 < w1.heap.size := by omega); (try have hz2 : w.heap.size + 1 + 1 < w1.heap.size := by omega); (try have hz3 : w.heap.size + 1 + 1 + 1 < w1.heap.size := by omega); (try have hz4 : w.heap.size + 1 + 1 + 1 + 1 < w1.heap.size := by omega); (try have hz5 : w.heap.size + 1 + 1 + 1 + 1 + 1 < w1.heap.size := by omega))
    go_quiet (fail)
    go_wp2
    · exact ⟨rfl, lowEnd_no (by rw [c1.out, c2.out]; omega), by ((repeat' (first | exact Below.refl _ _ | assumption | refine Below.setCell ?_ ?_ _ | refine bdrewN ?_ _ | refine Below.drew ?_ | refine Below.alloc ?_ ?_ _ | refine bbehind ?_ (by assumption) ?_)); all_goals first | (simp; done) | (simp; omega) | omega)⟩
    · refine bodyPost_ret (v := .agg #[.int .i64 (n.tdiv (gcdM n d)), .int .i64 (d.tdiv (gcdM n d))]) (by simp (maxDischargeDepth := 8) [results, Try.results72, go_sem, *]) rfl ?_
      exact ⟨lowEnd_ok c1.out.symm c2.out.symm (by omega) (by omega) (by omega), by ((repeat' (first | exact Below.refl _ _ | assumption | refine Below.setCell ?_ ?_ _ | refine bdrewN ?_ _ | refine Below.drew ?_ | refine Below.alloc ?_ ?_ _ | refine bbehind ?_ (by assumption) ?_)); all_goals first | (simp; done) | (simp; omega) | omega)⟩
    all_goals exact ⟨rfl, lowEnd_no (by rw [c1.out, c2.out]; omega), by ((repeat' (first | exact Below.refl _ _ | assumption | refine Below.setCell ?_ ?_ _ | refine bdrewN ?_ _ | refine Below.drew ?_ | refine Below.alloc ?_ ?_ _ | refine bbehind ?_ (by assumption) ?_)); all_goals first | (simp; done) | (simp; omega) | omega)⟩

theorem lowEnd_yes {n d : Int} (h : lowOk n d = true) : lowEnd n d = .returned (.agg #[.int .i64 (lowN n d), .int .i64 (lowD n d)]) := if_pos h
theorem lowEnd_not {n d : Int} (h : ¬ lowOk n d = true) : lowEnd n d = .panicked [{ v := .iface 107 (.agg #[]), recovered := false }] := if_neg h

theorem low_yes {P : Program} {f : FuncId} {args : Array Value} {w : World} {n d : Int} (hok : lowOk n d = true) (h : Calls P f args w fun e w' => e = lowEnd n d ∧ Below w.heap.size w w') :
    Calls P f args w fun e w' => e = .returned (.agg #[.int .i64 (lowN n d), .int .i64 (lowD n d)]) ∧ Below w.heap.size w w' :=
  h.mono fun _ _ ⟨he, hb⟩ => ⟨he.trans (lowEnd_yes hok), hb⟩
theorem low_not {P : Program} {f : FuncId} {args : Array Value} {w : World} {n d : Int} (hok : ¬ lowOk n d = true) (h : Calls P f args w fun e w' => e = lowEnd n d ∧ Below w.heap.size w w') :
    Calls P f args w fun e w' => e = .panicked [{ v := .iface 107 (.agg #[]), recovered := false }] ∧ Below w.heap.size w w' :=
  h.mono fun _ _ ⟨he, hb⟩ => ⟨he.trans (lowEnd_not hok), hb⟩

theorem lowest_ok (n d : Int) (w : World) (h1 : -9223372036854775808 < n) (h2 : n ≤ 9223372036854775807)
   (h3 : -9223372036854775808 < d) (h4 : d ≤ 9223372036854775807) (hd : ¬ d = 0) (hok : lowOk n d = true) :
    Calls Try.prog 72 #[.int .i64 n, .int .i64 d] w fun e w' => e = .returned (.agg #[.int .i64 (lowN n d), .int .i64 (lowD n d)]) ∧ Below w.heap.size w w' :=
  (lowest_any n d w h1 h2 h3 h4 hd).mono fun _ _ ⟨he, hb⟩ => ⟨he.trans (lowEnd_yes hok), hb⟩
theorem lowest_beyond (n d : Int) (w : World) (h1 : -9223372036854775808 < n) (h2 : n ≤ 9223372036854775807)
   (h3 : -9223372036854775808 < d) (h4 : d ≤ 9223372036854775807) (hd : ¬ d = 0) (hok : ¬ lowOk n d = true) :
    Calls Try.prog 72 #[.int .i64 n, .int .i64 d] w fun e w' => e = .panicked [{ v := .iface 107 (.agg #[]), recovered := false }] ∧ Below w.heap.size w w' :=
  (lowest_any n d w h1 h2 h3 h4 hd).mono fun _ _ ⟨he, hb⟩ => ⟨he.trans (lowEnd_not hok), hb⟩
end Go.Proofs.Ytgefidffhdanhaa
