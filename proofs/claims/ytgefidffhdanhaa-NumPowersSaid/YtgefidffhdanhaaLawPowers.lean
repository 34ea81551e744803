import Derived.Test.YtgefidffhdanhaaLawCmp
import Derived.Test.YtgefidffhdanhaaNumS
import Derived.Deep.DeepCutAuto
namespace Go.Proofs.Ytgefidffhdanhaa
open Go.RowKit Go.BigFrame

theorem pow_cop {n d : Int} (h : Int.gcd n d = 1) (k : Nat) : Int.gcd (n ^ k) (d ^ k) = 1 := by
  unfold Int.gcd at h ⊢
  rw [Int.natAbs_pow, Int.natAbs_pow]
  exact Nat.Coprime.pow k k h
theorem pow_fit {n d : Int} (hd : 1 ≤ d) {k : Nat} (h : Fit (n ^ (k + 1)) (d ^ (k + 1))) : Fit (n ^ k) (d ^ k) := by
  obtain ⟨h1, h2, h3, h4⟩ := h
  have d1 : 0 < d ^ k := Int.pow_pos (by omega)
  rw [Int.pow_succ] at h1 h2 h3 h4
  have d2 : d ^ k * 1 ≤ d ^ k * d := Int.mul_le_mul_of_nonneg_left hd (by omega)
  have n1 : (n ^ k).natAbs ≤ 1000000000 := by
    by_cases hn : n = 0
    · subst hn
      cases k with
      | zero => simp
      | succ k => simp
    · have e : (n ^ k * n).natAbs = (n ^ k).natAbs * n.natAbs := Int.natAbs_mul _ _
      have g : (n ^ k).natAbs * 1 ≤ (n ^ k).natAbs * n.natAbs := Nat.mul_le_mul_left _ (by omega)
      omega
  exact ⟨by omega, by omega, by omega, by omega⟩
theorem low_pow {n d : Int} (h : chk n d = 0) (k : Nat) : (Fit (n ^ k) (d ^ k) → lowT (n ^ k) (d ^ k) = (n ^ k, d ^ k, 0)) ∧ (¬ Fit (n ^ k) (d ^ k) → lowT (n ^ k) (d ^ k) = (0, 0, 8)) := by
  have d1 : 0 < d ^ k := Int.pow_pos (den_pos h)
  have g := pow_cop (cop_of_chk h) k
  refine ⟨fun f => low_eq (by omega) (chk_of f g) rfl, fun f => ?_⟩
  rcases low_is (n := n ^ k) (d := d ^ k) (by omega) with ⟨x, y, h1, h2, h3⟩ | ⟨h1, h2⟩
  · obtain ⟨e1, e2⟩ := form_one d1 (den_pos h2) g (cop_of_chk h2) h3
    rw [e1, e2] at f
    exact absurd (fit_of_chk h2) f
  · exact h1
theorem pow_low {n d : Int} (h : chk n d = 0) (k : Nat) : powT n d k = lowT (n ^ k) (d ^ k) := by
  induction k with
  | zero =>
    rw [Int.pow_zero, Int.pow_zero]
    exact (low_eq (by decide) chk11 rfl).symm
  | succ k ih =>
    by_cases f : Fit (n ^ k) (d ^ k)
    · rw [(low_pow h k).1 f] at ih
      rw [powT_next ih, Int.pow_succ, Int.pow_succ]
    · rw [(low_pow h k).2 f] at ih
      rw [powT_stop ih, (low_pow h (k + 1)).2 (fun g => f (pow_fit (fit_of_chk h).dlo g))]
theorem pow_val {n d x y : Int} (h : chk n d = 0) {k : Nat} (hk : powT n d k = (x, y, 0)) : x = n ^ k ∧ y = d ^ k ∧ chk x y = 0 := by
  rw [pow_low h] at hk
  by_cases f : Fit (n ^ k) (d ^ k)
  · rw [(low_pow h k).1 f] at hk
    simp only [Prod.mk.injEq] at hk
    obtain ⟨rfl, rfl, -⟩ := hk
    exact ⟨rfl, rfl, chk_of f (pow_cop (cop_of_chk h) k)⟩
  · rw [(low_pow h k).2 f] at hk
    simp at hk
theorem pow_mul {n d x y u v : Int} (h : chk n d = 0) {i k : Nat} (hi : powT n d i = (x, y, 0)) (hk : powT n d k = (u, v, 0)) : mulT x y u v = powT n d (i + k) := by
  obtain ⟨rfl, rfl, h1⟩ := pow_val h hi
  obtain ⟨rfl, rfl, h2⟩ := pow_val h hk
  rw [mul_eq h1 h2, pow_low h, ← Int.pow_add, ← Int.pow_add]

theorem pow_int {an ad x y e j : Int} (ha : chk an ad = 0) (h0 : 0 ≤ j) (h1 : j ≤ 30) (h : powT an ad j.toNat = (x, y, e)) (w : World) :
    Calls Try.prog 37 #[.agg #[.int .i64 an, .int .i64 ad], .int .i64 j] w fun r w' => r = .returned (.tuple #[.agg #[.int .i64 x, .int .i64 y], .int .i64 e]) ∧ Below w.heap.size w w' := by
  have := pow_any an ad j w
  unfold powP at this
  rw [if_pos ha, if_pos ⟨h0, h1⟩, h] at this; exact this

structure PwRel (w : World) (an ad : Int) (p : Nat) (x1 x2 : Int) (wc : World) : Prop where
  below : Below w.heap.size w wc
  sp : w.heap.size < p
  pz : p < wc.heap.size
  a0 : wc.cell? ⟨w.heap.size, 0, none⟩ = some (.int .i64 an)
  a1 : wc.cell? ⟨w.heap.size, 1, none⟩ = some (.int .i64 ad)
  x0 : wc.cell? ⟨p, 0, none⟩ = some (.int .i64 x1)
  x1 : wc.cell? ⟨p, 1, none⟩ = some (.int .i64 x2)

set_option maxRecDepth 100000 in
set_option maxHeartbeats 8000000 in
theorem powers_x (an ad n m i k x1 x2 ex y1 y2 ey z1 z2 ez b1 b2 eb : Int) (w : World) (ha : chk an ad = 0) (hn : 0 ≤ n) (hn2 : n ≤ 255) (hm : 0 ≤ m) (hm2 : m ≤ 255)
    (hi : n % 31 = i) (hk : m % 31 = k) (hx : powT an ad i.toNat = (x1, x2, ex)) (hy : powT an ad k.toNat = (y1, y2, ey))
    (hz : i + k ≤ 30 → (ex == 0) = true → (ey == 0) = true → powT an ad (i + k).toNat = (z1, z2, ez) ∧ mulT x1 x2 y1 y2 = (z1, z2, ez))
    (hb : (i == 0) = false → powT an ad (i - 1).toNat = (b1, b2, eb) ∧ ((eb == 0) = true → mulT b1 b2 an ad = (x1, x2, ex)) ∧ ((eb == 0) = false → ex = 8)) :
    Calls Try.prog 9 #[.agg #[.int .i64 an, .int .i64 ad], .int .u8 n, .int .u8 m] w fun e w' => e = .returned (.bool true) ∧ Below w.heap.size w w' := by
  have i0 : 0 ≤ i := by omega
  have i1 : i ≤ 30 := by omega
  have k0 : 0 ≤ k := by omega
  have k1 : k ≤ 30 := by omega
  have C0 := Lib.hid (fun w => rcheck_any an ad w)
  rw [ha] at C0
  have C1 := Lib.hid (fun w => pow_int ha i0 i1 hx w)
  have C2 := Lib.hid (fun w => pow_int ha k0 k1 hy w)
  have C3 := Lib.hid (fun w => pow_int (j := 0) ha (by omega) (by omega) (show powT an ad (0 : Int).toNat = (1, 1, 0) from rfl) w)
  have C4 := Lib.hid (fun h1 h2 h3 w => pow_int (j := i + k) ha (by omega) h1 (hz h1 h2 h3).1 w)
  have C5 := Lib.hid (fun h1 h2 h3 w => mul_res (hz h1 h2 h3).2 w)
  have C6 := Lib.hid (fun (h1 : (i == 0) = false) w => pow_int (j := i - 1) ha (by simp at h1; omega) (by omega) (hb h1).1 w)
  have C7 := Lib.hid (fun h1 h2 w => mul_res ((hb h1).2.1 h2) w)
  have HX := Lib.hid (fun h1 h2 => (hb h1).2.2 h2)
  obtain ⟨B, hB⟩ : ∃ B : Bool, B = ((decide (i + k ≤ 30) && (ex == 0)) && (ey == 0)) := ⟨_, rfl⟩
  have HB := Lib.hid hB
  clear hx hy hz hb hB ha
  go_enter Try.func9, Try.ntmps9
  go_wp2_with fail
  refine (C0.out _).mono ?_; rintro e w1 ⟨rfl, hb1⟩; obtain ⟨hc1, hf1⟩ := bcell hb1; have hs1 := hb1.size; (try simp at hs1); (try have hz10 : w.heap.size < w1.heap.size := by omega); (try have hz11 : w.heap.size + 1 < w1.heap.size := by omega); (try have hz12 : w.heap.size + 1 + 1 < w1.heap.size := by omega); (try have hz13 : w.heap.size + 1 + 1 + 1 < w1.heap.size := by omega); (try have hz14 : w.heap.size + 1 + 1 + 1 + 1 < w1.heap.size := by omega); (try have hz15 : w.heap.size + 1 + 1 + 1 + 1 + 1 < w1.heap.size := by omega)
  go_wp2_with fail
  refine (C1.out _).mono ?_; rintro e w2 ⟨rfl, hb2⟩; obtain ⟨hc2, hf2⟩ := bcell hb2; have hs2 := hb2.size; (try simp at hs2); (try have hz20 : w.heap.size < w2.heap.size := by omega); (try have hz21 : w.heap.size + 1 < w2.heap.size := by omega); (try have hz22 : w.heap.size + 1 + 1 < w2.heap.size := by omega); (try have hz23 : w.heap.size + 1 + 1 + 1 < w2.heap.size := by omega); (try have hz24 : w.heap.size + 1 + 1 + 1 + 1 < w2.heap.size := by omega); (try have hz25 : w.heap.size + 1 + 1 + 1 + 1 + 1 < w2.heap.size := by omega); (try have hy1_2 : w1.heap.size < w2.heap.size := by omega)
  go_wp2_with fail
  refine (C2.out _).mono ?_; rintro e w3 ⟨rfl, hb3⟩; obtain ⟨hc3, hf3⟩ := bcell hb3; have hs3 := hb3.size; (try simp at hs3); (try have hz30 : w.heap.size < w3.heap.size := by omega); (try have hz31 : w.heap.size + 1 < w3.heap.size := by omega); (try have hz32 : w.heap.size + 1 + 1 < w3.heap.size := by omega); (try have hz33 : w.heap.size + 1 + 1 + 1 < w3.heap.size := by omega); (try have hz34 : w.heap.size + 1 + 1 + 1 + 1 < w3.heap.size := by omega); (try have hz35 : w.heap.size + 1 + 1 + 1 + 1 + 1 < w3.heap.size := by omega); (try have hy1_3 : w1.heap.size < w3.heap.size := by omega); (try have hy2_3 : w2.heap.size < w3.heap.size := by omega)
  go_wp2_with fail
  refine (C3.out _).mono ?_; rintro e w4 ⟨rfl, hb4⟩; obtain ⟨hc4, hf4⟩ := bcell hb4; have hs4 := hb4.size; (try simp at hs4); (try have hz40 : w.heap.size < w4.heap.size := by omega); (try have hz41 : w.heap.size + 1 < w4.heap.size := by omega); (try have hz42 : w.heap.size + 1 + 1 < w4.heap.size := by omega); (try have hz43 : w.heap.size + 1 + 1 + 1 < w4.heap.size := by omega); (try have hz44 : w.heap.size + 1 + 1 + 1 + 1 < w4.heap.size := by omega); (try have hz45 : w.heap.size + 1 + 1 + 1 + 1 + 1 < w4.heap.size := by omega); (try have hy1_4 : w1.heap.size < w4.heap.size := by omega); (try have hy2_4 : w2.heap.size < w4.heap.size := by omega); (try have hy3_4 : w3.heap.size < w4.heap.size := by omega)
  go_upto_region 7 with fail
  refine wp_region_quiet_all (fun w' => ∃ x : Lower _, w' = x.val) (by kernel_rfl) (by kernel_rfl) ⟨⟨_, (Below.refl _ _).drew⟩, rfl⟩ ?_
  repeat (go_big_quiet_step ((go_at_call 62; exact calls_lower _ (one_any _))))
  refine wpQuiet_nil ?_
  intro w5 hx5
  obtain ⟨x5, hx5⟩ := hx5
  have hb5 := x5.prop
  rw [← hx5] at hb5
  clear hx5 x5
  obtain ⟨hc5, hf5⟩ := bcell hb5
  have hs5 := hb5.size
  try simp at hs5
  try have hz50 : w.heap.size < w5.heap.size := by omega
  try have hz51 : w.heap.size + 1 < w5.heap.size := by omega
  try have hz52 : w.heap.size + 1 + 1 < w5.heap.size := by omega
  try have hz53 : w.heap.size + 1 + 1 + 1 < w5.heap.size := by omega
  try have hz54 : w.heap.size + 1 + 1 + 1 + 1 < w5.heap.size := by omega
  try have hz55 : w.heap.size + 1 + 1 + 1 + 1 + 1 < w5.heap.size := by omega
  try have hy1_5 : w1.heap.size < w5.heap.size := by omega
  try have hy2_5 : w2.heap.size < w5.heap.size := by omega
  try have hy3_5 : w3.heap.size < w5.heap.size := by omega
  try have hy4_5 : w4.heap.size < w5.heap.size := by omega
  go_upto_region 9 with fail
  go_cut [68] (fun s wx => s = .bool B ∧ w5 = wx)
  case first =>
    clear C0 C1 C2 C3 C4 C5 C6 C7 HX
    by_cases h1 : i + k ≤ 30
    · cases h2 : ex == 0 <;> cases h3 : ey == 0
      all_goals
        go_wp2_with fail
        go_meet
        case rel => exact ⟨by rw [HB.out]; simp [*], rfl⟩
    · have h1' : 30 < i + k := by omega
      have HD := Lib.hid (decide_eq_false h1)
      clear h1
      go_wp2_with fail
      go_meet
      case rel => exact ⟨by rw [HB.out, HD.out]; rfl, rfl⟩
  case rest =>
    obtain ⟨rfl, rfl⟩ := hcut
    go_upto_if 68 with fail
    go_cut [] (fun wx => PwRel w an ad w2.heap.size x1 x2 wx)
    case first =>
      have o1 : w.heap.size < w2.heap.size := by omega
      cases hBB : B with
      | true =>
        have hz := HB.out
        rw [hBB] at hz
        have hz' := hz.symm
        simp only [Bool.and_eq_true, decide_eq_true_eq] at hz'
        have D4 := Lib.hid (C4.out hz'.1.1 hz'.1.2 hz'.2)
        have D5 := Lib.hid (C5.out hz'.1.1 hz'.1.2 hz'.2)
        have q1 := hz'.1.1
        clear hz hz' hBB
        go_wp2_with fail
        refine (D4.out _).mono ?_; rintro e w6 ⟨rfl, hb6⟩; obtain ⟨hc6, hf6⟩ := bcell hb6; have hs6 := hb6.size; (try simp at hs6); (try have hz60 : w.heap.size < w6.heap.size := by omega); (try have hz61 : w.heap.size + 1 < w6.heap.size := by omega); (try have hz62 : w.heap.size + 1 + 1 < w6.heap.size := by omega); (try have hz63 : w.heap.size + 1 + 1 + 1 < w6.heap.size := by omega); (try have hz64 : w.heap.size + 1 + 1 + 1 + 1 < w6.heap.size := by omega); (try have hz65 : w.heap.size + 1 + 1 + 1 + 1 + 1 < w6.heap.size := by omega); (try have hy1_6 : w1.heap.size < w6.heap.size := by omega); (try have hy2_6 : w2.heap.size < w6.heap.size := by omega); (try have hy3_6 : w3.heap.size < w6.heap.size := by omega); (try have hy4_6 : w4.heap.size < w6.heap.size := by omega); (try have hy5_6 : w5.heap.size < w6.heap.size := by omega)
        go_wp2_with fail
        refine (D5.out _).mono ?_; rintro e w7 ⟨rfl, hb7⟩; obtain ⟨hc7, hf7⟩ := bcell hb7; have hs7 := hb7.size; (try simp at hs7); (try have hz70 : w.heap.size < w7.heap.size := by omega); (try have hz71 : w.heap.size + 1 < w7.heap.size := by omega); (try have hz72 : w.heap.size + 1 + 1 < w7.heap.size := by omega); (try have hz73 : w.heap.size + 1 + 1 + 1 < w7.heap.size := by omega); (try have hz74 : w.heap.size + 1 + 1 + 1 + 1 < w7.heap.size := by omega); (try have hz75 : w.heap.size + 1 + 1 + 1 + 1 + 1 < w7.heap.size := by omega); (try have hy1_7 : w1.heap.size < w7.heap.size := by omega); (try have hy2_7 : w2.heap.size < w7.heap.size := by omega); (try have hy3_7 : w3.heap.size < w7.heap.size := by omega); (try have hy4_7 : w4.heap.size < w7.heap.size := by omega); (try have hy5_7 : w5.heap.size < w7.heap.size := by omega); (try have hy6_7 : w6.heap.size < w7.heap.size := by omega)
        go_wp2_with fail
        go_meet
        case rel => exact ⟨by ((repeat' (first | exact Below.refl _ _ | assumption | refine Below.setCell ?_ ?_ _ | refine bdrewN ?_ _ | refine Below.drew ?_ | refine Below.alloc ?_ ?_ _ | refine bbehind ?_ (by assumption) ?_)); all_goals first | (simp; done) | (simp; omega) | omega), o1, (by first | assumption | (simp; done) | (simp; omega) | omega), (by simp (maxDischargeDepth := 8) [go_sem, *]), (by simp (maxDischargeDepth := 8) [go_sem, *]), (by simp (maxDischargeDepth := 8) [go_sem, *]), (by simp (maxDischargeDepth := 8) [go_sem, *])⟩
      | false =>
        clear hBB
        go_wp2_with fail
        go_meet
        case rel => exact ⟨by ((repeat' (first | exact Below.refl _ _ | assumption | refine Below.setCell ?_ ?_ _ | refine bdrewN ?_ _ | refine Below.drew ?_ | refine Below.alloc ?_ ?_ _ | refine bbehind ?_ (by assumption) ?_)); all_goals first | (simp; done) | (simp; omega) | omega), o1, (by first | assumption | (simp; done) | (simp; omega) | omega), (by simp (maxDischargeDepth := 8) [go_sem, *]), (by simp (maxDischargeDepth := 8) [go_sem, *]), (by simp (maxDischargeDepth := 8) [go_sem, *]), (by simp (maxDischargeDepth := 8) [go_sem, *])⟩
    case rest =>
      obtain ⟨hb, sp, pz, a0, a1, x0, x1'⟩ := hcut
      have o2 : w.heap.size < wc.heap.size := by omega
      cases hi0 : i == 0 with
      | true =>
        go_wp2_with fail
        refine (summed_any _).mono ?_; rintro e w6 ⟨rfl, hb6⟩; obtain ⟨hc6, hf6⟩ := bcell hb6; have hs6 := hb6.size; (try simp at hs6); (try have hz60 : w.heap.size < w6.heap.size := by omega); (try have hz61 : w.heap.size + 1 < w6.heap.size := by omega); (try have hz62 : w.heap.size + 1 + 1 < w6.heap.size := by omega); (try have hz63 : w.heap.size + 1 + 1 + 1 < w6.heap.size := by omega); (try have hz64 : w.heap.size + 1 + 1 + 1 + 1 < w6.heap.size := by omega); (try have hz65 : w.heap.size + 1 + 1 + 1 + 1 + 1 < w6.heap.size := by omega); (try have hy1_6 : w1.heap.size < w6.heap.size := by omega); (try have hy2_6 : w2.heap.size < w6.heap.size := by omega); (try have hy3_6 : w3.heap.size < w6.heap.size := by omega); (try have hy4_6 : w4.heap.size < w6.heap.size := by omega); (try have hy5_6 : w5.heap.size < w6.heap.size := by omega)
        go_wp2
        go_ret
        exact ⟨rfl, by ((repeat' (first | exact Below.refl _ _ | assumption | refine Below.setCell ?_ ?_ _ | refine bdrewN ?_ _ | refine Below.drew ?_ | refine Below.alloc ?_ ?_ _ | refine bbehind ?_ (by assumption) ?_)); all_goals first | (simp; done) | (simp; omega) | omega)⟩
      | false =>
        cases he : eb == 0 with
        | true =>
          have D7 := Lib.hid (C7.out hi0 he)
          have D6 := Lib.hid (C6.out hi0)
          go_wp2_with fail
          refine (D6.out _).mono ?_; rintro e w6 ⟨rfl, hb6⟩; obtain ⟨hc6, hf6⟩ := bcell hb6; have hs6 := hb6.size; (try simp at hs6); (try have hz60 : w.heap.size < w6.heap.size := by omega); (try have hz61 : w.heap.size + 1 < w6.heap.size := by omega); (try have hz62 : w.heap.size + 1 + 1 < w6.heap.size := by omega); (try have hz63 : w.heap.size + 1 + 1 + 1 < w6.heap.size := by omega); (try have hz64 : w.heap.size + 1 + 1 + 1 + 1 < w6.heap.size := by omega); (try have hz65 : w.heap.size + 1 + 1 + 1 + 1 + 1 < w6.heap.size := by omega); (try have hy1_6 : w1.heap.size < w6.heap.size := by omega); (try have hy2_6 : w2.heap.size < w6.heap.size := by omega); (try have hy3_6 : w3.heap.size < w6.heap.size := by omega); (try have hy4_6 : w4.heap.size < w6.heap.size := by omega); (try have hy5_6 : w5.heap.size < w6.heap.size := by omega)
          go_wp2_with fail
          refine (D7.out _).mono ?_; rintro e w7 ⟨rfl, hb7⟩; obtain ⟨hc7, hf7⟩ := bcell hb7; have hs7 := hb7.size; (try simp at hs7); (try have hz70 : w.heap.size < w7.heap.size := by omega); (try have hz71 : w.heap.size + 1 < w7.heap.size := by omega); (try have hz72 : w.heap.size + 1 + 1 < w7.heap.size := by omega); (try have hz73 : w.heap.size + 1 + 1 + 1 < w7.heap.size := by omega); (try have hz74 : w.heap.size + 1 + 1 + 1 + 1 < w7.heap.size := by omega); (try have hz75 : w.heap.size + 1 + 1 + 1 + 1 + 1 < w7.heap.size := by omega); (try have hy1_7 : w1.heap.size < w7.heap.size := by omega); (try have hy2_7 : w2.heap.size < w7.heap.size := by omega); (try have hy3_7 : w3.heap.size < w7.heap.size := by omega); (try have hy4_7 : w4.heap.size < w7.heap.size := by omega); (try have hy5_7 : w5.heap.size < w7.heap.size := by omega); (try have hy6_7 : w6.heap.size < w7.heap.size := by omega)
          go_wp2_with fail
          refine (summed_any _).mono ?_; rintro e w8 ⟨rfl, hb8⟩; obtain ⟨hc8, hf8⟩ := bcell hb8; have hs8 := hb8.size; (try simp at hs8); (try have hz80 : w.heap.size < w8.heap.size := by omega); (try have hz81 : w.heap.size + 1 < w8.heap.size := by omega); (try have hz82 : w.heap.size + 1 + 1 < w8.heap.size := by omega); (try have hz83 : w.heap.size + 1 + 1 + 1 < w8.heap.size := by omega); (try have hz84 : w.heap.size + 1 + 1 + 1 + 1 < w8.heap.size := by omega); (try have hz85 : w.heap.size + 1 + 1 + 1 + 1 + 1 < w8.heap.size := by omega); (try have hy1_8 : w1.heap.size < w8.heap.size := by omega); (try have hy2_8 : w2.heap.size < w8.heap.size := by omega); (try have hy3_8 : w3.heap.size < w8.heap.size := by omega); (try have hy4_8 : w4.heap.size < w8.heap.size := by omega); (try have hy5_8 : w5.heap.size < w8.heap.size := by omega); (try have hy6_8 : w6.heap.size < w8.heap.size := by omega); (try have hy7_8 : w7.heap.size < w8.heap.size := by omega)
          go_wp2
          go_ret
          exact ⟨rfl, by ((repeat' (first | exact Below.refl _ _ | assumption | refine Below.setCell ?_ ?_ _ | refine bdrewN ?_ _ | refine Below.drew ?_ | refine Below.alloc ?_ ?_ _ | refine bbehind ?_ (by assumption) ?_)); all_goals first | (simp; done) | (simp; omega) | omega)⟩
        | false =>
          have hx8 := HX.out hi0 he
          have hx8' : (ex == 8) = true := by simpa using hx8
          have D6 := Lib.hid (C6.out hi0)
          clear hx8
          go_wp2_with fail
          refine (D6.out _).mono ?_; rintro e w6 ⟨rfl, hb6⟩; obtain ⟨hc6, hf6⟩ := bcell hb6; have hs6 := hb6.size; (try simp at hs6); (try have hz60 : w.heap.size < w6.heap.size := by omega); (try have hz61 : w.heap.size + 1 < w6.heap.size := by omega); (try have hz62 : w.heap.size + 1 + 1 < w6.heap.size := by omega); (try have hz63 : w.heap.size + 1 + 1 + 1 < w6.heap.size := by omega); (try have hz64 : w.heap.size + 1 + 1 + 1 + 1 < w6.heap.size := by omega); (try have hz65 : w.heap.size + 1 + 1 + 1 + 1 + 1 < w6.heap.size := by omega); (try have hy1_6 : w1.heap.size < w6.heap.size := by omega); (try have hy2_6 : w2.heap.size < w6.heap.size := by omega); (try have hy3_6 : w3.heap.size < w6.heap.size := by omega); (try have hy4_6 : w4.heap.size < w6.heap.size := by omega); (try have hy5_6 : w5.heap.size < w6.heap.size := by omega)
          go_wp2_with fail
          refine (summed_any _).mono ?_; rintro e w7 ⟨rfl, hb7⟩; obtain ⟨hc7, hf7⟩ := bcell hb7; have hs7 := hb7.size; (try simp at hs7); (try have hz70 : w.heap.size < w7.heap.size := by omega); (try have hz71 : w.heap.size + 1 < w7.heap.size := by omega); (try have hz72 : w.heap.size + 1 + 1 < w7.heap.size := by omega); (try have hz73 : w.heap.size + 1 + 1 + 1 < w7.heap.size := by omega); (try have hz74 : w.heap.size + 1 + 1 + 1 + 1 < w7.heap.size := by omega); (try have hz75 : w.heap.size + 1 + 1 + 1 + 1 + 1 < w7.heap.size := by omega); (try have hy1_7 : w1.heap.size < w7.heap.size := by omega); (try have hy2_7 : w2.heap.size < w7.heap.size := by omega); (try have hy3_7 : w3.heap.size < w7.heap.size := by omega); (try have hy4_7 : w4.heap.size < w7.heap.size := by omega); (try have hy5_7 : w5.heap.size < w7.heap.size := by omega); (try have hy6_7 : w6.heap.size < w7.heap.size := by omega)
          go_wp2
          go_ret
          exact ⟨rfl, by ((repeat' (first | exact Below.refl _ _ | assumption | refine Below.setCell ?_ ?_ _ | refine bdrewN ?_ _ | refine Below.drew ?_ | refine Below.alloc ?_ ?_ _ | refine bbehind ?_ (by assumption) ?_)); all_goals first | (simp; done) | (simp; omega) | omega)⟩

theorem powers_any (an ad n m : Int) (w : World) (hn : 0 ≤ n ∧ n ≤ 255) (hm : 0 ≤ m ∧ m ≤ 255) :
    Calls Try.prog 9 #[.agg #[.int .i64 an, .int .i64 ad], .int .u8 n, .int .u8 m] w fun e w' => e = .returned (.bool true) ∧ Below w.heap.size w w' := by
  by_cases ha : chk an ad = 0
  · refine powers_x an ad n m _ _ _ _ _ _ _ _ _ _ _ _ _ _ w ha hn.1 hn.2 hm.1 hm.2 rfl rfl (pair3 _) (pair3 _) (fun h1 h2 h3 => ⟨pair3 _, ?_⟩) (fun h1 => ⟨pair3 _, fun h2 => ?_, fun h2 => ?_⟩)
    · rcases pow_is ha (n % 31).toNat with ⟨x, y, hx, cx⟩ | hx
      · rcases pow_is ha (m % 31).toNat with ⟨u, v, hu, cu⟩ | hu
        · rw [hx, hu, show (n % 31 + m % 31).toNat = (n % 31).toNat + (m % 31).toNat by omega]
          exact (pow_mul ha hx hu).trans (pair3 _)
        · rw [hu] at h3; cases h3
      · rw [hx] at h2; cases h2
    · have hi : ¬ n % 31 = 0 := by simpa using h1
      rcases pow_is ha (n % 31 - 1).toNat with ⟨x, y, hx, cx⟩ | hx
      · rw [hx]
        have e : (n % 31).toNat = (n % 31 - 1).toNat + 1 := by omega
        rw [e, powT_next hx]
        exact (mul_eq cx ha).trans (pair3 _)
      · rw [hx] at h2; cases h2
    · have hi : ¬ n % 31 = 0 := by simpa using h1
      rcases pow_is ha (n % 31 - 1).toNat with ⟨x, y, hx, cx⟩ | hx
      · rw [hx] at h2; cases h2
      · have e : (n % 31).toNat = (n % 31 - 1).toNat + 1 := by omega
        rw [e, powT_stop hx]
  · have C0 := Lib.hid (fun w => rcheck_any an ad w)
    have ha' : (chk an ad != 0) = true := by simpa using ha
    clear ha
    go_enter Try.func9, Try.ntmps9
    go_wp2_with fail
    refine (C0.out _).mono ?_; rintro e w1 ⟨rfl, hb1⟩; obtain ⟨hc1, hf1⟩ := bcell hb1; have hs1 := hb1.size; (try simp at hs1); (try have hz10 : w.heap.size < w1.heap.size := by omega); (try have hz11 : w.heap.size + 1 < w1.heap.size := by omega); (try have hz12 : w.heap.size + 1 + 1 < w1.heap.size := by omega); (try have hz13 : w.heap.size + 1 + 1 + 1 < w1.heap.size := by omega); (try have hz14 : w.heap.size + 1 + 1 + 1 + 1 < w1.heap.size := by omega); (try have hz15 : w.heap.size + 1 + 1 + 1 + 1 + 1 < w1.heap.size := by omega)
    go_wp2_with fail
    refine (summed_any _).mono ?_; rintro e w2 ⟨rfl, hb2⟩; obtain ⟨hc2, hf2⟩ := bcell hb2; have hs2 := hb2.size; (try simp at hs2); (try have hz20 : w.heap.size < w2.heap.size := by omega); (try have hz21 : w.heap.size + 1 < w2.heap.size := by omega); (try have hz22 : w.heap.size + 1 + 1 < w2.heap.size := by omega); (try have hz23 : w.heap.size + 1 + 1 + 1 < w2.heap.size := by omega); (try have hz24 : w.heap.size + 1 + 1 + 1 + 1 < w2.heap.size := by omega); (try have hz25 : w.heap.size + 1 + 1 + 1 + 1 + 1 < w2.heap.size := by omega); (try have hy1_2 : w1.heap.size < w2.heap.size := by omega)
    go_wp2
    go_ret
    exact ⟨rfl, by ((repeat' (first | exact Below.refl _ _ | assumption | refine Below.setCell ?_ ?_ _ | refine bdrewN ?_ _ | refine Below.drew ?_ | refine Below.alloc ?_ ?_ _ | refine bbehind ?_ (by assumption) ?_)); all_goals first | (simp; done) | (simp; omega) | omega)⟩
end Go.Proofs.Ytgefidffhdanhaa
