import Derived.Test.YtgefidffhdanhaaNumU
import Derived.Test.YtgefidffhdanhaaRefB
import Derived.Test.YtgefidffhdanhaaAllocTail
namespace Go.Proofs.Ytgefidffhdanhaa
open Go.RowKit Go.BigFrame

theorem rint_any (n : Int) (w : World) : Calls Try.prog 81 #[.int .i64 n] w fun e w' => e = .returned (.agg #[.int .i64 n, .int .i64 1]) ∧ Below w.heap.size w w' := by
  go_enter Try.func81, Try.ntmps81
  go_wp2
  refine bodyPost_ret (v := .agg #[.int .i64 n, .int .i64 1]) (by simp (maxDischargeDepth := 8) [results, Try.results81, go_sem, *]) rfl ?_
  exact ⟨rfl, by ((repeat' (first | exact Below.refl _ _ | assumption | refine Below.setCell ?_ ?_ _ | refine bdrewN ?_ _ | refine Below.drew ?_ | refine Below.alloc ?_ ?_ _ | refine bbehind ?_ (by assumption) ?_)); all_goals first | (simp; done) | (simp; omega) | omega)⟩

structure RPow (w : World) (an ad : Int) (q : Nat) (x y : Int) (wr : World) : Prop where
  below : Below w.heap.size w wr
  sq : w.heap.size + 1 < q
  qz : q < wr.heap.size
  a0 : wr.cell? ⟨w.heap.size, 0, none⟩ = some (.int .i64 an)
  a1 : wr.cell? ⟨w.heap.size, 1, none⟩ = some (.int .i64 ad)
  r0 : wr.cell? ⟨w.heap.size + 1, 0, none⟩ = some (.int .i64 0)
  r1 : wr.cell? ⟨w.heap.size + 1, 1, none⟩ = some (.int .i64 0)
  p0 : wr.cell? ⟨q, 0, none⟩ = some (.int .i64 x)
  p1 : wr.cell? ⟨q, 1, none⟩ = some (.int .i64 y)
  f0 : wr.frozen? ⟨w.heap.size + 1, 0, none⟩ = false
  f1 : wr.frozen? ⟨w.heap.size + 1, 1, none⟩ = false
  g0 : wr.frozen? ⟨q, 0, none⟩ = false
  g1 : wr.frozen? ⟨q, 1, none⟩ = false

set_option maxRecDepth 100000 in
set_option maxHeartbeats 2000000 in
theorem rpow_any (an ad n : Int) (w : World) :
    Calls Try.prog 38 #[.agg #[.int .i64 an, .int .i64 ad], .int .i64 n] w fun e w' => e = .returned (.tuple #[.agg #[.int .i64 (powP an ad n).1, .int .i64 (powP an ad n).2.1], .int .i64 (powP an ad n).2.2]) ∧ Below w.heap.size w w' := by
  unfold powP
  by_cases hA : chk an ad = 0
  · rw [if_pos hA]
    by_cases hn : 0 ≤ n ∧ n ≤ 30
    · have hin : inB n 0 30 = true := inB_yes hn
      rw [if_pos hn]
      obtain ⟨m, rfl⟩ := Int.eq_ofNat_of_zero_le hn.1
      rw [Int.toNat_natCast]
      have hm : m ≤ 30 := by omega
      have HA := Lib.hid hA
      have C0 := Lib.hid (fun w => rcheck_any an ad w)
      rw [hA] at C0
      clear hn hA
      go_enter Try.func38, Try.ntmps38
      go_wp2_with fail
      refine (C0.out _).mono ?_; rintro e w1 ⟨rfl, hb1⟩; obtain ⟨hc1, hf1⟩ := bcell hb1; have hs1 := hb1.size; (try simp at hs1); (try have hz10 : w.heap.size < w1.heap.size := by omega); (try have hz11 : w.heap.size + 1 < w1.heap.size := by omega); (try have hz12 : w.heap.size + 1 + 1 < w1.heap.size := by omega); (try have hz13 : w.heap.size + 1 + 1 + 1 < w1.heap.size := by omega); (try have hz14 : w.heap.size + 1 + 1 + 1 + 1 < w1.heap.size := by omega); (try have hz15 : w.heap.size + 1 + 1 + 1 + 1 + 1 < w1.heap.size := by omega)
      go_wp2_with fail
      refine (in_any _ _ _ _).mono ?_; rintro e w' ⟨rfl, rfl⟩
      go_wp2_with fail
      refine (rint_any _ _).mono ?_; rintro e w2 ⟨rfl, hb2⟩; obtain ⟨hc2, hf2⟩ := bcell hb2; have hs2 := hb2.size; (try simp at hs2); (try have hz20 : w.heap.size < w2.heap.size := by omega); (try have hz21 : w.heap.size + 1 < w2.heap.size := by omega); (try have hz22 : w.heap.size + 1 + 1 < w2.heap.size := by omega); (try have hz23 : w.heap.size + 1 + 1 + 1 < w2.heap.size := by omega); (try have hz24 : w.heap.size + 1 + 1 + 1 + 1 < w2.heap.size := by omega); (try have hz25 : w.heap.size + 1 + 1 + 1 + 1 + 1 < w2.heap.size := by omega); (try have hy1_2 : w1.heap.size < w2.heap.size := by omega); (try have hp1_2 : p1 < w2.heap.size := by omega)
      go_wp2_with fail
      have o1 : w.heap.size + 1 < w2.heap.size := by omega
      go_loopw [8] (fun i wr => ∃ (k : Nat) (x y : Int), i = .int .i64 k ∧ k ≤ m ∧ (powT an ad k = (x, y, 0) ∧ chk x y = 0) ∧ RPow w an ad w2.heap.size x y wr) (fun i _ => m - (intOf i).toNat)
      case atStart => exact ⟨0, 1, 1, rfl, Nat.zero_le _, ⟨rfl, chk11⟩, by ((repeat' (first | exact Below.refl _ _ | assumption | refine Below.setCell ?_ ?_ _ | refine bdrewN ?_ _ | refine Below.drew ?_ | refine Below.alloc ?_ ?_ _ | refine bbehind ?_ (by assumption) ?_)); all_goals first | (simp; done) | (simp; omega) | omega), o1, (by first | assumption | (simp; done) | (simp; omega) | omega), (by simp (maxDischargeDepth := 8) [go_sem, *]), (by simp (maxDischargeDepth := 8) [go_sem, *]), (by simp (maxDischargeDepth := 8) [go_sem, *]), (by simp (maxDischargeDepth := 8) [go_sem, *]), (by simp (maxDischargeDepth := 8) [go_sem, *]), (by simp (maxDischargeDepth := 8) [go_sem, *]), (by simp (maxDischargeDepth := 8) [go_sem, *]), (by simp (maxDischargeDepth := 8) [go_sem, *]), (by simp (maxDischargeDepth := 8) [go_sem, *]), (by simp (maxDischargeDepth := 8) [go_sem, *])⟩
      case round =>
        obtain ⟨k, x, y, rfl, hk, hp, ⟨hb, sq, qz, a0, a1, r0, r1, p0, p1, f0, f1, g0, g1⟩⟩ := hrel
        have HP := Lib.hid hp; clear hp
        have hs0 : w.heap.size < wr.heap.size := by omega
        have hs1 : w.heap.size + 1 < wr.heap.size := by omega
        have ne1 : ¬ w.heap.size = w2.heap.size := by omega
        have ne2 : ¬ w.heap.size + 1 = w2.heap.size := by omega
        clear hb1 hb2 hc1 hc2 hf1 hf2
        by_cases hlt : k < m
        · rcases low_is (n := x * an) (d := y * ad) (dens_ne (den_pos HP.out.2) (den_pos HA.out)) with ⟨u, v, h1, h2, -⟩ | ⟨h1, -⟩
          · have HT := Lib.hid (fun w => rmul_any x y an ad w)
            rw [show mulT x y an ad = (u, v, 0) from (mul_eq HP.out.2 HA.out).trans h1] at HT
            have HN := Lib.hid ((powT_next HP.out.1).trans h1)
            have HC := Lib.hid h2
            clear h1 h2
            go_wp2_with fail
            refine (HT.out _).mono ?_; rintro e w3 ⟨rfl, hb3⟩; obtain ⟨hc3, hf3⟩ := bcell hb3; have hs3 := hb3.size; (try simp at hs3); (try have hz30 : w.heap.size < w3.heap.size := by omega); (try have hz31 : w.heap.size + 1 < w3.heap.size := by omega); (try have hz32 : w.heap.size + 1 + 1 < w3.heap.size := by omega); (try have hz33 : w.heap.size + 1 + 1 + 1 < w3.heap.size := by omega); (try have hz34 : w.heap.size + 1 + 1 + 1 + 1 < w3.heap.size := by omega); (try have hz35 : w.heap.size + 1 + 1 + 1 + 1 + 1 < w3.heap.size := by omega); (try have hy1_3 : w1.heap.size < w3.heap.size := by omega); (try have hy2_3 : w2.heap.size < w3.heap.size := by omega); (try have hp1_3 : p1 < w3.heap.size := by omega); (try have hp2_3 : p2 < w3.heap.size := by omega)
            go_wp2
            go_roundw
            case rel => exact ⟨k + 1, _, _, by go_num, by omega, ⟨HN.out, HC.out⟩, by ((repeat' (first | exact Below.refl _ _ | assumption | refine Below.setCell ?_ ?_ _ | refine bdrewN ?_ _ | refine Below.drew ?_ | refine Below.alloc ?_ ?_ _ | refine bbehind ?_ (by assumption) ?_)); all_goals first | (simp; done) | (simp; omega) | omega), (by first | assumption | (simp; done) | (simp; omega) | omega), (by first | assumption | (simp; done) | (simp; omega) | omega), (by simp (maxDischargeDepth := 8) [go_sem, *]), (by simp (maxDischargeDepth := 8) [go_sem, *]), (by simp (maxDischargeDepth := 8) [go_sem, *]), (by simp (maxDischargeDepth := 8) [go_sem, *]), (by simp (maxDischargeDepth := 8) [go_sem, *]), (by simp (maxDischargeDepth := 8) [go_sem, *]), (by simp (maxDischargeDepth := 8) [go_sem, *]), (by simp (maxDischargeDepth := 8) [go_sem, *]), (by simp (maxDischargeDepth := 8) [go_sem, *]), (by simp (maxDischargeDepth := 8) [go_sem, *])⟩
            case measure => simp [intOf]; omega
          · have HT := Lib.hid (fun w => rmul_any x y an ad w)
            rw [show mulT x y an ad = (0, 0, 8) from (mul_eq HP.out.2 HA.out).trans h1] at HT
            have HN := Lib.hid (pow_over' ((powT_next HP.out.1).trans h1) (show k + 1 ≤ m by omega))
            clear h1
            go_wp2_with fail
            refine (HT.out _).mono ?_; rintro e w3 ⟨rfl, hb3⟩; obtain ⟨hc3, hf3⟩ := bcell hb3; have hs3 := hb3.size; (try simp at hs3); (try have hz30 : w.heap.size < w3.heap.size := by omega); (try have hz31 : w.heap.size + 1 < w3.heap.size := by omega); (try have hz32 : w.heap.size + 1 + 1 < w3.heap.size := by omega); (try have hz33 : w.heap.size + 1 + 1 + 1 < w3.heap.size := by omega); (try have hz34 : w.heap.size + 1 + 1 + 1 + 1 < w3.heap.size := by omega); (try have hz35 : w.heap.size + 1 + 1 + 1 + 1 + 1 < w3.heap.size := by omega); (try have hy1_3 : w1.heap.size < w3.heap.size := by omega); (try have hy2_3 : w2.heap.size < w3.heap.size := by omega); (try have hp1_3 : p1 < w3.heap.size := by omega); (try have hp2_3 : p2 < w3.heap.size := by omega)
            go_wp2
            rw [HN.out]
            refine bodyPost_ret (v := .tuple #[.agg #[.int .i64 0, .int .i64 0], .int .i64 8]) (by simp (maxDischargeDepth := 8) [results, Try.results38, go_sem, *]) rfl ?_
            exact ⟨rfl, by ((repeat' (first | exact Below.refl _ _ | assumption | refine Below.setCell ?_ ?_ _ | refine bdrewN ?_ _ | refine Below.drew ?_ | refine Below.alloc ?_ ?_ _ | refine bbehind ?_ (by assumption) ?_)); all_goals first | (simp; done) | (simp; omega) | omega)⟩
        · have he : k = m := by omega
          subst he
          go_wp2
          rw [HP.out.1]
          refine bodyPost_ret (v := .tuple #[.agg #[.int .i64 x, .int .i64 y], .int .i64 0]) (by simp (maxDischargeDepth := 8) [results, Try.results38, go_sem, *]) rfl ?_
          exact ⟨rfl, by ((repeat' (first | exact Below.refl _ _ | assumption | refine Below.setCell ?_ ?_ _ | refine bdrewN ?_ _ | refine Below.drew ?_ | refine Below.alloc ?_ ?_ _ | refine bbehind ?_ (by assumption) ?_)); all_goals first | (simp; done) | (simp; omega) | omega)⟩
    · have hin : inB n 0 30 = false := inB_no hn
      rw [if_neg hn]
      clear hn
      go_enter Try.func38, Try.ntmps38
      go_wp2_with (first | (go_at_call 17; refine (rcheck_any _ _ _).mono ?_; rintro e w1 ⟨rfl, hb1⟩; obtain ⟨hc1, hf1⟩ := bcell hb1; have hs1 := hb1.size; (try simp at hs1); (try have hz0 : w.heap.size < w1.heap.size := by omega); (try have hz1 : w.heap.size + 1 < w1.heap.size := by omega); (try have hz2 : w.heap.size + 1 + 1 < w1.heap.size := by omega); (try have hz3 : w.heap.size + 1 + 1 + 1 < w1.heap.size := by omega); (try have hz4 : w.heap.size + 1 + 1 + 1 + 1 < w1.heap.size := by omega); (try have hz5 : w.heap.size + 1 + 1 + 1 + 1 + 1 < w1.heap.size := by omega)) | (go_at_call 64; refine (in_any _ _ _ _).mono ?_; rintro e w1 ⟨rfl, rfl⟩))
      refine bodyPost_ret (v := .tuple #[.agg #[.int .i64 0, .int .i64 0], .int .i64 3]) (by simp (maxDischargeDepth := 8) [results, Try.results38, go_sem, *]) rfl ?_
      exact ⟨rfl, by ((repeat' (first | exact Below.refl _ _ | assumption | refine Below.setCell ?_ ?_ _ | refine bdrewN ?_ _ | refine Below.drew ?_ | refine Below.alloc ?_ ?_ _ | refine bbehind ?_ (by assumption) ?_)); all_goals first | (simp; done) | (simp; omega) | omega)⟩
  · have hA' : (chk an ad != 0) = true := by simpa using hA
    rw [if_neg hA]
    clear hA
    go_enter Try.func38, Try.ntmps38
    go_wp2_with (go_at_call 17; refine (rcheck_any _ _ _).mono ?_; rintro e w1 ⟨rfl, hb1⟩; obtain ⟨hc1, hf1⟩ := bcell hb1; have hs1 := hb1.size; (try simp at hs1); (try have hz0 : w.heap.size < w1.heap.size := by omega); (try have hz1 : w.heap.size + 1 < w1.heap.size := by omega); (try have hz2 : w.heap.size + 1 + 1 < w1.heap.size := by omega); (try have hz3 : w.heap.size + 1 + 1 + 1 < w1.heap.size := by omega); (try have hz4 : w.heap.size + 1 + 1 + 1 + 1 < w1.heap.size := by omega); (try have hz5 : w.heap.size + 1 + 1 + 1 + 1 + 1 < w1.heap.size := by omega))
    refine bodyPost_ret (v := .tuple #[.agg #[.int .i64 0, .int .i64 0], .int .i64 (chk an ad)]) (by simp (maxDischargeDepth := 8) [results, Try.results38, go_sem, *]) rfl ?_
    exact ⟨rfl, by ((repeat' (first | exact Below.refl _ _ | assumption | refine Below.setCell ?_ ?_ _ | refine bdrewN ?_ _ | refine Below.drew ?_ | refine Below.alloc ?_ ?_ _ | refine bbehind ?_ (by assumption) ?_)); all_goals first | (simp; done) | (simp; omega) | omega)⟩

theorem sumP_ok {l : List (Int × Int)} (h : firstErr l = 0) : sumP l = sumT l l.length := if_pos h
theorem sumP_err {l : List (Int × Int)} {e : Int} (h : firstErr l = e) (he : ¬ e = 0) : sumP l = (0, 0, e) := by
  unfold sumP; rw [h, if_neg he]
structure RSum (w : World) (wr : World) : Prop where
  below : Below w.heap.size w wr
  size : w.heap.size < wr.heap.size
  r0 : wr.cell? ⟨w.heap.size, 0, none⟩ = some (.int .i64 0)
  r1 : wr.cell? ⟨w.heap.size, 1, none⟩ = some (.int .i64 0)
  f0 : wr.frozen? ⟨w.heap.size, 0, none⟩ = false
  f1 : wr.frozen? ⟨w.heap.size, 1, none⟩ = false
structure RSum2 (w : World) (q : Nat) (x y : Int) (wr : World) : Prop where
  rs : RSum w wr
  sq : w.heap.size < q
  qz : q < wr.heap.size
  p0 : wr.cell? ⟨q, 0, none⟩ = some (.int .i64 x)
  p1 : wr.cell? ⟨q, 1, none⟩ = some (.int .i64 y)
  g0 : wr.frozen? ⟨q, 0, none⟩ = false
  g1 : wr.frozen? ⟨q, 1, none⟩ = false

set_option maxRecDepth 100000 in
set_option maxHeartbeats 2000000 in
theorem rsum_any (p1 off cap : Nat) (l : List (Int × Int)) (w : World) (hl : l.length ≤ 1000000) (hb : p1 < w.heap.size) (hc : NumsAt w p1 off l) :
    Calls Try.prog 36 #[.slice (some ⟨p1, off, none⟩) l.length cap] w fun e w' => e = .returned (.tuple #[.agg #[.int .i64 (sumP l).1, .int .i64 (sumP l).2.1], .int .i64 (sumP l).2.2]) ∧ Below w.heap.size w w' := by
  have HC := Lib.hid hc; clear hc
  go_enter Try.func36, Try.ntmps36
  go_wp2
  go_loopw [4] (fun i wr => ∃ k : Nat, i = .int .i64 k ∧ k ≤ l.length ∧ firstErr (l.drop k) = firstErr l ∧ RSum w wr) (fun i _ => l.length - (intOf i).toNat)
  case atStart => exact ⟨0, rfl, Nat.zero_le _, by simp, by ((repeat' (first | exact Below.refl _ _ | assumption | refine Below.setCell ?_ ?_ _ | refine bdrewN ?_ _ | refine Below.drew ?_ | refine Below.alloc ?_ ?_ _ | refine bbehind ?_ (by assumption) ?_)); all_goals first | (simp; done) | (simp; omega) | omega), by simp, by simp [go_sem], by simp [go_sem], by simp [go_sem], by simp [go_sem]⟩
  case round =>
    obtain ⟨k, rfl, hk, he, ⟨hbw, hsz, r0, r1, f0, f1⟩⟩ := hrel
    have HE := Lib.hid he; clear he
    by_cases hlt : k < l.length
    · obtain ⟨c1, c2⟩ := HC.out k hlt
      have d1 : wr.cell? ⟨p1, off + k * 2, none⟩ = some (.int .i64 (l.getD k (0, 0)).1) := by rw [hbw.cell (p := ⟨p1, _, none⟩) hb]; exact c1
      have d2 : wr.cell? ⟨p1, off + k * 2 + 1, none⟩ = some (.int .i64 (l.getD k (0, 0)).2) := by rw [hbw.cell (p := ⟨p1, _, none⟩) hb]; exact c2
      have HS := Lib.hid (firstErr_step l k hlt)
      clear c1 c2
      generalize (l.getD k (0, 0)).1 = x at *
      generalize (l.getD k (0, 0)).2 = y at *
      by_cases hx : chk x y = 0
      · have hx' : (chk x y != 0) = false := by simp [hx]
        have HX := Lib.hid hx; clear hx
        go_wp2_with fail
        refine (rcheck_any _ _ _).mono ?_; rintro e w1 ⟨rfl, hb1⟩; obtain ⟨hc1, hf1⟩ := bcell hb1; have hs1 := hb1.size; (try simp at hs1); (try have hz10 : w.heap.size < w1.heap.size := by omega); (try have hz11 : w.heap.size + 1 < w1.heap.size := by omega); (try have hz12 : w.heap.size + 1 + 1 < w1.heap.size := by omega); (try have hz13 : w.heap.size + 1 + 1 + 1 < w1.heap.size := by omega); (try have hz14 : w.heap.size + 1 + 1 + 1 + 1 < w1.heap.size := by omega); (try have hz15 : w.heap.size + 1 + 1 + 1 + 1 + 1 < w1.heap.size := by omega)
        go_wp2
        go_roundw
        case rel => exact ⟨k + 1, by go_num, by omega, by rw [← HE.out, HS.out, if_pos HX.out], by ((repeat' (first | exact Below.refl _ _ | assumption | refine Below.setCell ?_ ?_ _ | refine bdrewN ?_ _ | refine Below.drew ?_ | refine Below.alloc ?_ ?_ _ | refine bbehind ?_ (by assumption) ?_)); all_goals first | (simp; done) | (simp; omega) | omega), (by first | assumption | (simp; done) | (simp; omega) | omega), (by simp (maxDischargeDepth := 8) [go_sem, *]), (by simp (maxDischargeDepth := 8) [go_sem, *]), (by simp (maxDischargeDepth := 8) [go_sem, *]), (by simp (maxDischargeDepth := 8) [go_sem, *])⟩
        case measure => simp [intOf]; omega
      · have hx' : (chk x y != 0) = true := by simpa using hx
        have HX := Lib.hid hx; clear hx
        have HR := Lib.hid (sumP_err (show firstErr l = chk x y by rw [← HE.out, HS.out, if_neg HX.out]) HX.out)
        go_wp2_with fail
        refine (rcheck_any _ _ _).mono ?_; rintro e w1 ⟨rfl, hb1⟩; obtain ⟨hc1, hf1⟩ := bcell hb1; have hs1 := hb1.size; (try simp at hs1); (try have hz10 : w.heap.size < w1.heap.size := by omega); (try have hz11 : w.heap.size + 1 < w1.heap.size := by omega); (try have hz12 : w.heap.size + 1 + 1 < w1.heap.size := by omega); (try have hz13 : w.heap.size + 1 + 1 + 1 < w1.heap.size := by omega); (try have hz14 : w.heap.size + 1 + 1 + 1 + 1 < w1.heap.size := by omega); (try have hz15 : w.heap.size + 1 + 1 + 1 + 1 + 1 < w1.heap.size := by omega)
        go_wp2
        rw [HR.out]
        refine bodyPost_ret (v := .tuple #[.agg #[.int .i64 0, .int .i64 0], .int .i64 (chk x y)]) (by simp (maxDischargeDepth := 8) [results, Try.results36, go_sem, *]) rfl ?_
        exact ⟨rfl, by ((repeat' (first | exact Below.refl _ _ | assumption | refine Below.setCell ?_ ?_ _ | refine bdrewN ?_ _ | refine Below.drew ?_ | refine Below.alloc ?_ ?_ _ | refine bbehind ?_ (by assumption) ?_)); all_goals first | (simp; done) | (simp; omega) | omega)⟩
    · have H0 := Lib.hid (show firstErr l = 0 by rw [← HE.out, List.drop_of_length_le (by omega)]; rfl)
      have HV := Lib.hid (err_all H0.out)
      have HSP := Lib.hid (sumP_ok H0.out)
      go_wp2_with fail
      refine (rint_any _ _).mono ?_; rintro e w1 ⟨rfl, hb1⟩; obtain ⟨hc1, hf1⟩ := bcell hb1; have hs1 := hb1.size; (try simp at hs1); (try have hz10 : w.heap.size < w1.heap.size := by omega); (try have hz11 : w.heap.size + 1 < w1.heap.size := by omega); (try have hz12 : w.heap.size + 1 + 1 < w1.heap.size := by omega); (try have hz13 : w.heap.size + 1 + 1 + 1 < w1.heap.size := by omega); (try have hz14 : w.heap.size + 1 + 1 + 1 + 1 < w1.heap.size := by omega); (try have hz15 : w.heap.size + 1 + 1 + 1 + 1 + 1 < w1.heap.size := by omega)
      go_wp2_with fail
      have o1 : w.heap.size < w1.heap.size := by omega
      go_loopw [7] (fun i wr => ∃ (j : Nat) (x y : Int), i = .int .i64 j ∧ j ≤ l.length ∧ (sumT l j = (x, y, 0) ∧ chk x y = 0) ∧ RSum2 w w1.heap.size x y wr) (fun i _ => l.length - (intOf i).toNat)
      case atStart => exact ⟨0, 0, 1, rfl, Nat.zero_le _, ⟨rfl, chk01⟩, ⟨by ((repeat' (first | exact Below.refl _ _ | assumption | refine Below.setCell ?_ ?_ _ | refine bdrewN ?_ _ | refine Below.drew ?_ | refine Below.alloc ?_ ?_ _ | refine bbehind ?_ (by assumption) ?_)); all_goals first | (simp; done) | (simp; omega) | omega), (by first | assumption | (simp; done) | (simp; omega) | omega), (by simp (maxDischargeDepth := 8) [go_sem, *]), (by simp (maxDischargeDepth := 8) [go_sem, *]), (by simp (maxDischargeDepth := 8) [go_sem, *]), (by simp (maxDischargeDepth := 8) [go_sem, *])⟩, o1, (by first | assumption | (simp; done) | (simp; omega) | omega), (by simp (maxDischargeDepth := 8) [go_sem, *]), (by simp (maxDischargeDepth := 8) [go_sem, *]), (by simp (maxDischargeDepth := 8) [go_sem, *]), (by simp (maxDischargeDepth := 8) [go_sem, *])⟩
      case round =>
        clear r0 r1 f0 f1 hbw hsz
        obtain ⟨j, x, y, rfl, hj, hp, ⟨⟨hbw, hsz, r0, r1, f0, f1⟩, sq, qz, xp0, xp1, g0, g1⟩⟩ := hrel
        have HP := Lib.hid hp; clear hp
        have ne1 : ¬ w.heap.size = w1.heap.size := by omega
        clear hb1 hc1 hf1
        by_cases hlt2 : j < l.length
        · obtain ⟨c1, c2⟩ := HC.out j hlt2
          have d1 : wr.cell? ⟨p1, off + j * 2, none⟩ = some (.int .i64 (l.getD j (0, 0)).1) := by rw [hbw.cell (p := ⟨p1, _, none⟩) hb]; exact c1
          have d2 : wr.cell? ⟨p1, off + j * 2 + 1, none⟩ = some (.int .i64 (l.getD j (0, 0)).2) := by rw [hbw.cell (p := ⟨p1, _, none⟩) hb]; exact c2
          have hvk := HV.out j hlt2
          have HK := Lib.hid (fun (h : sumT l j = (x, y, 0)) => sumT_next (n := (l.getD j (0, 0)).1) (d := (l.getD j (0, 0)).2) h rfl rfl)
          have hbr : p1 < wr.heap.size := by omega
          clear c1 c2
          generalize (l.getD j (0, 0)).1 = n at *
          generalize (l.getD j (0, 0)).2 = d at *
          have HVK := Lib.hid hvk; clear hvk
          rcases low_is (n := x * d + n * y) (d := y * d) (dens_ne (den_pos HP.out.2) (den_pos HVK.out)) with ⟨u, v, h1, h2, -⟩ | ⟨h1, -⟩
          · have HT := Lib.hid (fun w => radd_any x y n d w)
            rw [show addT x y n d = (u, v, 0) from (add_eq HP.out.2 HVK.out).trans h1] at HT
            have HN := Lib.hid ((HK.out HP.out.1).trans h1)
            have HCC := Lib.hid h2
            clear h1 h2
            go_wp2_with fail
            refine wp_region_alloc 9 8 39 (.agg #[.int .i64 (u), .int .i64 (v)]) (.cells #[.int .i64 0, .int .i64 0] 23) (.cells #[.int .i64 (u), .int .i64 (v)] 23) _ _ (by kernel_rfl) (by kernel_rfl) (by kernel_rfl) (by kernel_rfl) (by simp) rfl rfl (fun _ _ => by kernel_rfl) (stores_two rfl rfl fun a w p h1 h2 c0 c1 f0 f1 => by simp (maxDischargeDepth := 8) [go_sem, *]) ?_
            apply Exists.intro
            apply And.intro
            · intro WW hWW
              obtain ⟨hcW, hfW⟩ := bcell hWW
              have hsW := hWW.size
              try simp at hsW
              try have hbbW : b < WW.heap.size := by omega
              try have hzW0 : w.heap.size < WW.heap.size := by omega
              try have hzW1 : w.heap.size + 1 < WW.heap.size := by omega
              try have hzW2 : w.heap.size + 1 + 1 < WW.heap.size := by omega
              try have hzW3 : w.heap.size + 1 + 1 + 1 < WW.heap.size := by omega
              try have hzW4 : w.heap.size + 1 + 1 + 1 + 1 < WW.heap.size := by omega
              try have hzW5 : w.heap.size + 1 + 1 + 1 + 1 + 1 < WW.heap.size := by omega
              try have hy1_W : w1.heap.size < WW.heap.size := by omega
              try have hp1_W : p1 < WW.heap.size := by omega
              simp only [List.take_succ_cons, List.take_zero]
              repeat (go_big_quiet_step ((go_at_call 28; exact calls_lower _ (HT.out _))))
              refine wpQuiet_nil ?_
              exact rfl
            refine ⟨rfl, ?_⟩
            intro p2 w2 hb2 hpl2 hpr2 hpo2
            obtain ⟨hc2, hf2⟩ := bcell hb2
            have hs2 := hb2.size
            try simp at hs2
            try simp at hpl2
            try have hz20 : w.heap.size < w2.heap.size := by omega
            try have hz21 : w.heap.size + 1 < w2.heap.size := by omega
            try have hz22 : w.heap.size + 1 + 1 < w2.heap.size := by omega
            try have hz23 : w.heap.size + 1 + 1 + 1 < w2.heap.size := by omega
            try have hz24 : w.heap.size + 1 + 1 + 1 + 1 < w2.heap.size := by omega
            try have hz25 : w.heap.size + 1 + 1 + 1 + 1 + 1 < w2.heap.size := by omega
            try have hy1_2 : w1.heap.size < w2.heap.size := by omega
            try have hp1_2 : p1 < w2.heap.size := by omega
            try have hq20 : w.heap.size < p2 := by omega
            try have hq21 : w.heap.size + 1 < p2 := by omega
            try have hq22 : w.heap.size + 1 + 1 < p2 := by omega
            try have hq23 : w.heap.size + 1 + 1 + 1 < p2 := by omega
            try have hq24 : w.heap.size + 1 + 1 + 1 + 1 < p2 := by omega
            try have hq25 : w.heap.size + 1 + 1 + 1 + 1 + 1 < p2 := by omega
            try have hq1_2 : w1.heap.size < p2 := by omega
            have hpc2_0 : w2.cell? ⟨p2, 0, none⟩ = some (.int .i64 (u)) := cell_of_block hpo2 rfl
            have hpc2_1 : w2.cell? ⟨p2, 1, none⟩ = some (.int .i64 (v)) := cell_of_block hpo2 rfl
            have hpf2_0 := frozen_of_block (o := 0) hpo2
            have hpf2_1 := frozen_of_block (o := 1) hpo2
            clear hpo2
            simp only [List.drop_succ_cons, List.drop_zero, Act.put]
            go_wp2
            go_roundw
            case rel => exact ⟨j + 1, _, _, by go_num, by omega, ⟨HN.out, HCC.out⟩, ⟨by ((repeat' (first | exact Below.refl _ _ | assumption | refine Below.setCell ?_ ?_ _ | refine bdrewN ?_ _ | refine Below.drew ?_ | refine Below.alloc ?_ ?_ _ | refine bbehind ?_ (by assumption) ?_)); all_goals first | (simp; done) | (simp; omega) | omega), (by first | assumption | (simp; done) | (simp; omega) | omega), (by simp (maxDischargeDepth := 8) [go_sem, *]), (by simp (maxDischargeDepth := 8) [go_sem, *]), (by simp (maxDischargeDepth := 8) [go_sem, *]), (by simp (maxDischargeDepth := 8) [go_sem, *])⟩, (by first | assumption | (simp; done) | (simp; omega) | omega), (by first | assumption | (simp; done) | (simp; omega) | omega), (by simp (maxDischargeDepth := 8) [go_sem, *]), (by simp (maxDischargeDepth := 8) [go_sem, *]), (by simp (maxDischargeDepth := 8) [go_sem, *]), (by simp (maxDischargeDepth := 8) [go_sem, *])⟩
            case measure => simp [intOf]; omega
          · have HT := Lib.hid (fun w => radd_any x y n d w)
            rw [show addT x y n d = (0, 0, 8) from (add_eq HP.out.2 HVK.out).trans h1] at HT
            have HN := Lib.hid (HSP.out.trans (sum_over' ((HK.out HP.out.1).trans h1) (show j + 1 ≤ l.length by omega)))
            clear h1
            go_wp2_with fail
            refine wp_region_alloc 9 8 39 (.agg #[.int .i64 (0), .int .i64 (0)]) (.cells #[.int .i64 0, .int .i64 0] 23) (.cells #[.int .i64 (0), .int .i64 (0)] 23) _ _ (by kernel_rfl) (by kernel_rfl) (by kernel_rfl) (by kernel_rfl) (by simp) rfl rfl (fun _ _ => by kernel_rfl) (stores_two rfl rfl fun a w p h1 h2 c0 c1 f0 f1 => by simp (maxDischargeDepth := 8) [go_sem, *]) ?_
            apply Exists.intro
            apply And.intro
            · intro WW hWW
              obtain ⟨hcW, hfW⟩ := bcell hWW
              have hsW := hWW.size
              try simp at hsW
              try have hbbW : b < WW.heap.size := by omega
              try have hzW0 : w.heap.size < WW.heap.size := by omega
              try have hzW1 : w.heap.size + 1 < WW.heap.size := by omega
              try have hzW2 : w.heap.size + 1 + 1 < WW.heap.size := by omega
              try have hzW3 : w.heap.size + 1 + 1 + 1 < WW.heap.size := by omega
              try have hzW4 : w.heap.size + 1 + 1 + 1 + 1 < WW.heap.size := by omega
              try have hzW5 : w.heap.size + 1 + 1 + 1 + 1 + 1 < WW.heap.size := by omega
              try have hy1_W : w1.heap.size < WW.heap.size := by omega
              try have hp1_W : p1 < WW.heap.size := by omega
              simp only [List.take_succ_cons, List.take_zero]
              repeat (go_big_quiet_step ((go_at_call 28; exact calls_lower _ (HT.out _))))
              refine wpQuiet_nil ?_
              exact rfl
            refine ⟨rfl, ?_⟩
            intro p2 w2 hb2 hpl2 hpr2 hpo2
            obtain ⟨hc2, hf2⟩ := bcell hb2
            have hs2 := hb2.size
            try simp at hs2
            try simp at hpl2
            try have hz20 : w.heap.size < w2.heap.size := by omega
            try have hz21 : w.heap.size + 1 < w2.heap.size := by omega
            try have hz22 : w.heap.size + 1 + 1 < w2.heap.size := by omega
            try have hz23 : w.heap.size + 1 + 1 + 1 < w2.heap.size := by omega
            try have hz24 : w.heap.size + 1 + 1 + 1 + 1 < w2.heap.size := by omega
            try have hz25 : w.heap.size + 1 + 1 + 1 + 1 + 1 < w2.heap.size := by omega
            try have hy1_2 : w1.heap.size < w2.heap.size := by omega
            try have hp1_2 : p1 < w2.heap.size := by omega
            try have hq20 : w.heap.size < p2 := by omega
            try have hq21 : w.heap.size + 1 < p2 := by omega
            try have hq22 : w.heap.size + 1 + 1 < p2 := by omega
            try have hq23 : w.heap.size + 1 + 1 + 1 < p2 := by omega
            try have hq24 : w.heap.size + 1 + 1 + 1 + 1 < p2 := by omega
            try have hq25 : w.heap.size + 1 + 1 + 1 + 1 + 1 < p2 := by omega
            try have hq1_2 : w1.heap.size < p2 := by omega
            have hpc2_0 : w2.cell? ⟨p2, 0, none⟩ = some (.int .i64 (0)) := cell_of_block hpo2 rfl
            have hpc2_1 : w2.cell? ⟨p2, 1, none⟩ = some (.int .i64 (0)) := cell_of_block hpo2 rfl
            have hpf2_0 := frozen_of_block (o := 0) hpo2
            have hpf2_1 := frozen_of_block (o := 1) hpo2
            clear hpo2
            simp only [List.drop_succ_cons, List.drop_zero, Act.put]
            go_wp2
            rw [HN.out]
            refine bodyPost_ret (v := .tuple #[.agg #[.int .i64 0, .int .i64 0], .int .i64 8]) (by simp (maxDischargeDepth := 8) [results, Try.results36, go_sem, *]) rfl ?_
            exact ⟨rfl, by ((repeat' (first | exact Below.refl _ _ | assumption | refine Below.setCell ?_ ?_ _ | refine bdrewN ?_ _ | refine Below.drew ?_ | refine Below.alloc ?_ ?_ _ | refine bbehind ?_ (by assumption) ?_)); all_goals first | (simp; done) | (simp; omega) | omega)⟩
        · have he : j = l.length := by omega
          have HN := Lib.hid (HSP.out.trans (show sumT l l.length = (x, y, 0) by rw [← he]; exact HP.out.1))
          go_wp2
          rw [HN.out]
          refine bodyPost_ret (v := .tuple #[.agg #[.int .i64 x, .int .i64 y], .int .i64 0]) (by simp (maxDischargeDepth := 8) [results, Try.results36, go_sem, *]) rfl ?_
          exact ⟨rfl, by ((repeat' (first | exact Below.refl _ _ | assumption | refine Below.setCell ?_ ?_ _ | refine bdrewN ?_ _ | refine Below.drew ?_ | refine Below.alloc ?_ ?_ _ | refine bbehind ?_ (by assumption) ?_)); all_goals first | (simp; done) | (simp; omega) | omega)⟩
end Go.Proofs.Ytgefidffhdanhaa
