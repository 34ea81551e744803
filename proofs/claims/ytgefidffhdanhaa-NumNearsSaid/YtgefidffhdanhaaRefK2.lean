/- the reference's Of. -/
import Derived.Test.YtgefidffhdanhaaNumX
import Derived.Test.YtgefidffhdanhaaRefI
import Derived.Test.YtgefidffhdanhaaAllocTail
namespace Go.Proofs.Ytgefidffhdanhaa
open Go.RowKit Go.BigFrame

theorem low_yes2 {l : List Int} {k : Nat} (h1 : 1 ≤ k) (hk : k < l.length) (h : l.getD k 0 < 1) : low1 l = true := by
  cases l with
  | nil => simp at hk
  | cons t r =>
    obtain ⟨j, rfl⟩ : ∃ j, k = j + 1 := ⟨k - 1, by omega⟩
    exact low1_yes (k := j) (by simpa using hk) (by simpa using h)
theorem low_no2 {l : List Int} (h : ∀ k, 1 ≤ k → k < l.length → 1 ≤ l.getD k 0) : low1 l = false := by
  cases l with
  | nil => rfl
  | cons t r => exact low1_no (fun k hk => by simpa using h (k + 1) (by omega) (by simpa using hk))
theorem stand_fail : ∀ (l : List Int) (j : Nat), j < l.length → stand (l.drop j) = (0, 0, 8) → stand l = (0, 0, 8)
  | [], j, h, _ => by simp at h
  | t :: r, 0, _, h => h
  | t :: r, j + 1, h, hs => by
    have ih := stand_fail r j (by simpa using h) hs
    have hr : ¬ r = [] := by rintro rfl; simp at h
    by_cases ht : -1000000000 ≤ t ∧ t ≤ 1000000000
    · exact stand_no ht hr ih
    · exact stand_out ht
theorem tail_drop {l : List Int} {k : Nat} (h : low1 l = false) (hk : 1 ≤ k) : Tail1 (l.drop k) := by
  cases l with
  | nil => intro x hx; simp at hx
  | cons t r =>
    obtain ⟨j, rfl⟩ : ∃ j, k = j + 1 := ⟨k - 1, by omega⟩
    intro x hx
    exact tail_of h x (List.mem_of_mem_drop (by simpa using hx))
theorem drop_at {l : List Int} {j : Nat} (h : j < l.length) : l.drop j = l.getD j 0 :: l.drop (j + 1) := by
  rw [List.drop_eq_getElem_cons h]; simp [h]

theorem rlow_res (n d x y e : Int) (w : World) (h1 : -9223372036854775808 < n) (h2 : n ≤ 9223372036854775807) (h3 : -9223372036854775808 < d) (h4 : d ≤ 9223372036854775807) (hd : ¬ d = 0) (h : lowT n d = (x, y, e)) :
    Calls Try.prog 73 #[.int .i64 n, .int .i64 d] w fun r w' => r = .returned (.tuple #[.agg #[.int .i64 x, .int .i64 y], .int .i64 e]) ∧ Below w.heap.size w w' := by
  have := rlow_any n d w h1 h2 h3 h4 hd; rw [h] at this; exact this

/-- one step of the fold from the back. -/
theorem of_step {l : List Int} {j : Nat} {x y : Int} (hl : low1 l = false) (hj : j + 1 < l.length) (ht : -1000000000 ≤ l.getD j 0 ∧ l.getD j 0 ≤ 1000000000) (hs : stand (l.drop (j + 1)) = (x, y, 0)) :
    stand (l.drop j) = lowT (l.getD j 0 * x + y) x ∧ chk x y = 0 ∧ y ≤ x := by
  have hr : ¬ l.drop (j + 1) = [] := by intro h; have := congrArg List.length h; simp at this; omega
  refine ⟨by rw [drop_at (by omega)]; exact stand_ok ht hr hs, ?_⟩
  rcases stand_is _ hr (tail_drop hl (by omega)) with ⟨n, d, h1, h2, h3⟩ | h1
  · rw [hs] at h1
    simp only [Prod.mk.injEq, and_true] at h1
    obtain ⟨rfl, rfl⟩ := h1
    exact ⟨h2, h3⟩
  · rw [hs] at h1; simp at h1

/-- what the fold's cells hold. -/
structure RFold (w : World) (x y : Int) (wr : World) : Prop where
  hb : Below w.heap.size w wr
  s2 : w.heap.size + 1 < wr.heap.size
  p0 : wr.cell? ⟨w.heap.size + 1, 0, none⟩ = some (.int .i64 x)
  p1 : wr.cell? ⟨w.heap.size + 1, 1, none⟩ = some (.int .i64 y)
  r0 : wr.cell? ⟨w.heap.size, 0, none⟩ = some (.int .i64 0)
  r1 : wr.cell? ⟨w.heap.size, 1, none⟩ = some (.int .i64 0)
  f0 : wr.frozen? ⟨w.heap.size + 1, 0, none⟩ = false
  f1 : wr.frozen? ⟨w.heap.size + 1, 1, none⟩ = false
  g0 : wr.frozen? ⟨w.heap.size, 0, none⟩ = false
  g1 : wr.frozen? ⟨w.heap.size, 1, none⟩ = false

set_option maxRecDepth 100000 in
set_option maxHeartbeats 8000000 in
theorem rof_some (b off cap L : Nat) (l : List Int) (w : World) (hL : l.length = L + 1) (hhi : L + 1 ≤ 50) (hcap : L + 1 ≤ cap) (hb : b < w.heap.size) (hc : ∀ k, k < l.length → w.cell? ⟨b, off + k, none⟩ = some (.int .i64 (l.getD k 0))) :
    Calls Try.prog 54 #[.slice (some ⟨b, off, none⟩) (L + 1) cap] w fun e w' => e = .returned (.tuple #[.agg #[.int .i64 (ofT l).1, .int .i64 (ofT l).2.1], .int .i64 (ofT l).2.2]) ∧ Below w.heap.size w w' := by
  have I := Lib.hid (fun w => in_any ((L : Int) + 1) 1 50 w)
  rw [inB_yes (by omega)] at I
  have H0 := Lib.hid (show ¬ (l.length = 0 ∨ 50 < l.length) by omega)
  have HC := Lib.hid hc
  have HL := Lib.hid hL
  clear hc hL
  go_enter Try.func54, Try.ntmps54
  go_wp2_with fail
  refine (I.out _).mono ?_; rintro e w1 ⟨rfl, rfl⟩
  go_wp2
  go_loop [3, 5] (fun s i => ∃ k : Nat, s = .int .i64 0 ∧ i = .int .i64 k ∧ 1 ≤ k ∧ k ≤ L + 1 ∧ ∀ j, 1 ≤ j → j < k → 1 ≤ l.getD j 0) (fun _ i => L + 1 - (intOf i).toNat)
  case atStart => exact ⟨1, rfl, rfl, by omega, by omega, fun j h1 h2 => by omega⟩
  case round =>
    obtain ⟨k, rfl, rfl, k1, k2, k3⟩ := hrel
    have HK := Lib.hid k3; clear k3
    by_cases hk : k ≤ L
    · have c := HC.out k (by rw [HL.out]; omega)
      have hk' : k < L + 1 := by omega
      obtain ⟨t, ht⟩ : ∃ t, l.getD k 0 = t := ⟨_, rfl⟩
      rw [ht] at c
      have HT := Lib.hid ht; clear ht
      by_cases h1 : t < 1
      · have HE := Lib.hid (ofT_low H0.out (low_yes2 k1 (by rw [HL.out]; omega) (by rw [HT.out]; exact h1)))
        go_wp2
        rw [HE.out]
        refine bodyPost_ret (v := .tuple #[.agg #[.int .i64 0, .int .i64 0], .int .i64 3]) (by simp (maxDischargeDepth := 8) [results, Try.results54, go_sem, *]) rfl ?_
        exact ⟨rfl, by ((repeat' (first | exact Below.refl _ _ | assumption | refine Below.setCell ?_ ?_ _ | refine bdrewN ?_ _ | refine Below.drew ?_ | refine Below.alloc ?_ ?_ _ | refine bbehind ?_ (by assumption) ?_)); all_goals first | (simp; done) | (simp; omega) | omega)⟩
      · go_wp2
        go_round
        case rel => exact ⟨k + 1, rfl, by go_num, by omega, by omega, fun j j1 j2 => by
          by_cases hj : j = k
          · rw [hj, HT.out]; omega
          · exact HK.out j j1 (by omega)⟩
        case measure => first | (simp [intOf]; done) | (simp [intOf]; omega)
    · have HE := Lib.hid (low_no2 (l := l) (fun j j1 j2 => HK.out j j1 (by have := HL.out; omega)))
      by_cases hL0 : L = 0
      · have HA := Lib.hid (show last1 l = false from decide_eq_false (by have := HL.out; omega))
        have hl0 : ¬ (0 : Int) < (L : Int) := by omega
        clear hL0
        go_wp2
        have HO := Lib.hid (ofT_ok H0.out HE.out HA.out)
        go_loopw [3, 7] (fun s i wr => ∃ (k : Nat) (z x y : Int), s = .int .i64 0 ∧ i = .int .i64 z ∧ z + 1 = k ∧ k ≤ L + 1 ∧ (k ≤ L → stand (l.drop k) = (x, y, 0)) ∧ RFold w x y wr) (fun _ i _ => (intOf i + 1).toNat)
        case atStart => exact ⟨L + 1, L, 0, 0, rfl, rfl, by omega, by omega, fun h => by omega, by ((repeat' (first | exact Below.refl _ _ | assumption | refine Below.setCell ?_ ?_ _ | refine bdrewN ?_ _ | refine Below.drew ?_ | refine Below.alloc ?_ ?_ _ | refine bbehind ?_ (by assumption) ?_)); all_goals first | (simp; done) | (simp; omega) | omega), (by first | assumption | (simp; done) | (simp; omega) | omega), (by simp (maxDischargeDepth := 8) [go_sem, *]), (by simp (maxDischargeDepth := 8) [go_sem, *]), (by simp (maxDischargeDepth := 8) [go_sem, *]), (by simp (maxDischargeDepth := 8) [go_sem, *]), (by simp (maxDischargeDepth := 8) [go_sem, *]), (by simp (maxDischargeDepth := 8) [go_sem, *]), (by simp (maxDischargeDepth := 8) [go_sem, *]), (by simp (maxDischargeDepth := 8) [go_sem, *])⟩
        case round =>
          obtain ⟨k, z, x, y, rfl, rfl, hz, hk, hs, hbw, s2, p0, p1, r0, r1, f0, f1, g0, g1⟩ := hrel
          have s1 : w.heap.size < wr.heap.size := by omega
          have HS := Lib.hid hs; clear hs
          by_cases hz0 : z < 0
          · have HR := Lib.hid (show ofT l = (x, y, 0) by rw [HO.out]; have := HS.out (by omega); rw [show k = 0 by omega] at this; exact this)
            go_wp2
            rw [HR.out]
            refine bodyPost_ret (v := .tuple #[.agg #[.int .i64 x, .int .i64 y], .int .i64 0]) (by simp (maxDischargeDepth := 8) [results, Try.results54, go_sem, *]) rfl ?_
            exact ⟨rfl, by ((repeat' (first | exact Below.refl _ _ | assumption | refine Below.setCell ?_ ?_ _ | refine bdrewN ?_ _ | refine Below.drew ?_ | refine Below.alloc ?_ ?_ _ | refine bbehind ?_ (by assumption) ?_)); all_goals first | (simp; done) | (simp; omega) | omega)⟩
          · obtain ⟨j, rfl⟩ : ∃ j : Nat, z = j := ⟨z.toNat, by omega⟩
            obtain rfl : k = j + 1 := by omega
            have c : wr.cell? ⟨b, off + j, none⟩ = some (.int .i64 (l.getD j 0)) := (hbw.cell (p := ⟨b, _, none⟩) hb).trans (HC.out j (by rw [HL.out]; omega))
            have hb' : b < wr.heap.size := by omega
            obtain ⟨t, ht⟩ : ∃ t, l.getD j 0 = t := ⟨_, rfl⟩
            rw [ht] at c
            have HT := Lib.hid ht; clear ht
            have J := Lib.hid (fun w => in_any t (-1000000000) 1000000000 w)
            clear hz
            by_cases htb : -1000000000 ≤ t ∧ t ≤ 1000000000
            · rw [inB_yes htb] at J
              by_cases hj : j = L
              · have HN := Lib.hid (show stand (l.drop j) = (t, 1, 0) by
                  rw [drop_at (by rw [HL.out]; omega), HT.out, List.drop_of_length_le (by rw [HL.out]; omega)]; exact stand_one htb)
                subst hj
                go_wp2_with fail
                refine (J.out _).mono ?_; rintro e w3 ⟨rfl, rfl⟩
                go_wp2_with fail
                refine (rint_any _ _).mono ?_; rintro e w4 ⟨rfl, hb4⟩; obtain ⟨hc4, hf4⟩ := bcell hb4; have hs4 := hb4.size; (try simp at hs4); (try have hz40 : w.heap.size < w4.heap.size := by omega); (try have hz41 : w.heap.size + 1 < w4.heap.size := by omega); (try have hz42 : w.heap.size + 1 + 1 < w4.heap.size := by omega); (try have hz43 : w.heap.size + 1 + 1 + 1 < w4.heap.size := by omega); (try have hz44 : w.heap.size + 1 + 1 + 1 + 1 < w4.heap.size := by omega); (try have hz45 : w.heap.size + 1 + 1 + 1 + 1 + 1 < w4.heap.size := by omega); (try have hy1_4 : w1.heap.size < w4.heap.size := by omega); (try have hy2_4 : w2.heap.size < w4.heap.size := by omega); (try have hy3_4 : w3.heap.size < w4.heap.size := by omega); (try have hp1_4 : p1 < w4.heap.size := by omega); (try have hp2_4 : p2 < w4.heap.size := by omega); (try have hp3_4 : p3 < w4.heap.size := by omega)
                go_wp2
                go_roundw
                case rel => exact ⟨j, (j : Int) - 1, t, 1, rfl, by go_num, by omega, by omega, fun _ => HN.out, by ((repeat' (first | exact Below.refl _ _ | assumption | refine Below.setCell ?_ ?_ _ | refine bdrewN ?_ _ | refine Below.drew ?_ | refine Below.alloc ?_ ?_ _ | refine bbehind ?_ (by assumption) ?_)); all_goals first | (simp; done) | (simp; omega) | omega), (by first | assumption | (simp; done) | (simp; omega) | omega), (by simp (maxDischargeDepth := 8) [go_sem, *]), (by simp (maxDischargeDepth := 8) [go_sem, *]), (by simp (maxDischargeDepth := 8) [go_sem, *]), (by simp (maxDischargeDepth := 8) [go_sem, *]), (by simp (maxDischargeDepth := 8) [go_sem, *]), (by simp (maxDischargeDepth := 8) [go_sem, *]), (by simp (maxDischargeDepth := 8) [go_sem, *]), (by simp (maxDischargeDepth := 8) [go_sem, *])⟩
                case measure => first | (simp [intOf]; done) | (simp [intOf]; omega)
              · exfalso; omega
            · rw [inB_no htb] at J
              have HR := Lib.hid (show ofT l = (0, 0, 8) from HO.out.trans (stand_fail l j (by rw [HL.out]; omega) (by rw [drop_at (by rw [HL.out]; omega), HT.out]; exact stand_out htb)))
              go_wp2_with fail
              refine (J.out _).mono ?_; rintro e w3 ⟨rfl, rfl⟩
              go_wp2
              rw [HR.out]
              refine bodyPost_ret (v := .tuple #[.agg #[.int .i64 0, .int .i64 0], .int .i64 8]) (by simp (maxDischargeDepth := 8) [results, Try.results54, go_sem, *]) rfl ?_
              exact ⟨rfl, by ((repeat' (first | exact Below.refl _ _ | assumption | refine Below.setCell ?_ ?_ _ | refine bdrewN ?_ _ | refine Below.drew ?_ | refine Below.alloc ?_ ?_ _ | refine bbehind ?_ (by assumption) ?_)); all_goals first | (simp; done) | (simp; omega) | omega)⟩
      · have hl0 : (0 : Int) < (L : Int) := by omega
        have cL := HC.out L (by rw [HL.out]; omega)
        have hLa : l.getLastD 0 = l.getD L 0 := by
          have h1 := HL.out
          cases l with
          | nil => simp at h1
          | cons t r =>
            have e : r.length = L := by simpa using h1
            rw [last_at, e]
        obtain ⟨t', ht'⟩ : ∃ t, l.getD L 0 = t := ⟨_, rfl⟩
        rw [ht'] at cL hLa
        clear ht'
        by_cases h1 : t' = 1
        · have HA := Lib.hid (show last1 l = true from decide_eq_true ⟨by have := HL.out; omega, hLa.trans h1⟩)
          have HR := Lib.hid (ofT_last H0.out HE.out HA.out)
          clear hLa
          subst h1
          go_wp2
          rw [HR.out]
          refine bodyPost_ret (v := .tuple #[.agg #[.int .i64 0, .int .i64 0], .int .i64 1]) (by simp (maxDischargeDepth := 8) [results, Try.results54, go_sem, *]) rfl ?_
          exact ⟨rfl, by ((repeat' (first | exact Below.refl _ _ | assumption | refine Below.setCell ?_ ?_ _ | refine bdrewN ?_ _ | refine Below.drew ?_ | refine Below.alloc ?_ ?_ _ | refine bbehind ?_ (by assumption) ?_)); all_goals first | (simp; done) | (simp; omega) | omega)⟩
        · have HA := Lib.hid (show last1 l = false from decide_eq_false (fun h => h1 (hLa.symm.trans h.2)))
          have h1' : (t' == 1) = false := by simpa using h1
          clear hLa h1
          go_wp2
          have HO := Lib.hid (ofT_ok H0.out HE.out HA.out)
          go_loopw [3, 7] (fun s i wr => ∃ (k : Nat) (z x y : Int), s = .int .i64 0 ∧ i = .int .i64 z ∧ z + 1 = k ∧ k ≤ L + 1 ∧ (k ≤ L → stand (l.drop k) = (x, y, 0)) ∧ RFold w x y wr) (fun _ i _ => (intOf i + 1).toNat)
          case atStart => exact ⟨L + 1, L, 0, 0, rfl, rfl, by omega, by omega, fun h => by omega, by ((repeat' (first | exact Below.refl _ _ | assumption | refine Below.setCell ?_ ?_ _ | refine bdrewN ?_ _ | refine Below.drew ?_ | refine Below.alloc ?_ ?_ _ | refine bbehind ?_ (by assumption) ?_)); all_goals first | (simp; done) | (simp; omega) | omega), (by first | assumption | (simp; done) | (simp; omega) | omega), (by simp (maxDischargeDepth := 8) [go_sem, *]), (by simp (maxDischargeDepth := 8) [go_sem, *]), (by simp (maxDischargeDepth := 8) [go_sem, *]), (by simp (maxDischargeDepth := 8) [go_sem, *]), (by simp (maxDischargeDepth := 8) [go_sem, *]), (by simp (maxDischargeDepth := 8) [go_sem, *]), (by simp (maxDischargeDepth := 8) [go_sem, *]), (by simp (maxDischargeDepth := 8) [go_sem, *])⟩
          case round =>
            obtain ⟨k, z, x, y, rfl, rfl, hz, hk, hs, hbw, s2, p0, p1, r0, r1, f0, f1, g0, g1⟩ := hrel
            have s1 : w.heap.size < wr.heap.size := by omega
            have HS := Lib.hid hs; clear hs
            by_cases hz0 : z < 0
            · have HR := Lib.hid (show ofT l = (x, y, 0) by rw [HO.out]; have := HS.out (by omega); rw [show k = 0 by omega] at this; exact this)
              go_wp2
              rw [HR.out]
              refine bodyPost_ret (v := .tuple #[.agg #[.int .i64 x, .int .i64 y], .int .i64 0]) (by simp (maxDischargeDepth := 8) [results, Try.results54, go_sem, *]) rfl ?_
              exact ⟨rfl, by ((repeat' (first | exact Below.refl _ _ | assumption | refine Below.setCell ?_ ?_ _ | refine bdrewN ?_ _ | refine Below.drew ?_ | refine Below.alloc ?_ ?_ _ | refine bbehind ?_ (by assumption) ?_)); all_goals first | (simp; done) | (simp; omega) | omega)⟩
            · obtain ⟨j, rfl⟩ : ∃ j : Nat, z = j := ⟨z.toNat, by omega⟩
              obtain rfl : k = j + 1 := by omega
              have c : wr.cell? ⟨b, off + j, none⟩ = some (.int .i64 (l.getD j 0)) := (hbw.cell (p := ⟨b, _, none⟩) hb).trans (HC.out j (by rw [HL.out]; omega))
              have hb' : b < wr.heap.size := by omega
              obtain ⟨t, ht⟩ : ∃ t, l.getD j 0 = t := ⟨_, rfl⟩
              rw [ht] at c
              have HT := Lib.hid ht; clear ht
              have J := Lib.hid (fun w => in_any t (-1000000000) 1000000000 w)
              clear hz
              by_cases htb : -1000000000 ≤ t ∧ t ≤ 1000000000
              · rw [inB_yes htb] at J
                by_cases hj : j = L
                · have HN := Lib.hid (show stand (l.drop j) = (t, 1, 0) by
                    rw [drop_at (by rw [HL.out]; omega), HT.out, List.drop_of_length_le (by rw [HL.out]; omega)]; exact stand_one htb)
                  subst hj
                  go_wp2_with fail
                  refine (J.out _).mono ?_; rintro e w3 ⟨rfl, rfl⟩
                  go_wp2_with fail
                  refine (rint_any _ _).mono ?_; rintro e w4 ⟨rfl, hb4⟩; obtain ⟨hc4, hf4⟩ := bcell hb4; have hs4 := hb4.size; (try simp at hs4); (try have hz40 : w.heap.size < w4.heap.size := by omega); (try have hz41 : w.heap.size + 1 < w4.heap.size := by omega); (try have hz42 : w.heap.size + 1 + 1 < w4.heap.size := by omega); (try have hz43 : w.heap.size + 1 + 1 + 1 < w4.heap.size := by omega); (try have hz44 : w.heap.size + 1 + 1 + 1 + 1 < w4.heap.size := by omega); (try have hz45 : w.heap.size + 1 + 1 + 1 + 1 + 1 < w4.heap.size := by omega); (try have hy1_4 : w1.heap.size < w4.heap.size := by omega); (try have hy2_4 : w2.heap.size < w4.heap.size := by omega); (try have hy3_4 : w3.heap.size < w4.heap.size := by omega); (try have hp1_4 : p1 < w4.heap.size := by omega); (try have hp2_4 : p2 < w4.heap.size := by omega); (try have hp3_4 : p3 < w4.heap.size := by omega)
                  go_wp2
                  go_roundw
                  case rel => exact ⟨j, (j : Int) - 1, t, 1, rfl, by go_num, by omega, by omega, fun _ => HN.out, by ((repeat' (first | exact Below.refl _ _ | assumption | refine Below.setCell ?_ ?_ _ | refine bdrewN ?_ _ | refine Below.drew ?_ | refine Below.alloc ?_ ?_ _ | refine bbehind ?_ (by assumption) ?_)); all_goals first | (simp; done) | (simp; omega) | omega), (by first | assumption | (simp; done) | (simp; omega) | omega), (by simp (maxDischargeDepth := 8) [go_sem, *]), (by simp (maxDischargeDepth := 8) [go_sem, *]), (by simp (maxDischargeDepth := 8) [go_sem, *]), (by simp (maxDischargeDepth := 8) [go_sem, *]), (by simp (maxDischargeDepth := 8) [go_sem, *]), (by simp (maxDischargeDepth := 8) [go_sem, *]), (by simp (maxDischargeDepth := 8) [go_sem, *]), (by simp (maxDischargeDepth := 8) [go_sem, *])⟩
                  case measure => first | (simp [intOf]; done) | (simp [intOf]; omega)
                · have hjl : ((j : Int) == (L : Int)) = false := beq_eq_false_iff_ne.2 (by omega)
                  have hjL : j < L := by omega
                  have HW := of_step HE.out (j := j) (by rw [HL.out]; omega) (by rw [HT.out]; exact htb) (HS.out (by omega))
                  rw [HT.out] at HW
                  obtain ⟨hw1, hw2, hw3⟩ := HW
                  have pd := den_pos hw2
                  have fx := fit_of_chk hw2
                  obtain ⟨x1, x2, x3, x4⟩ := fx
                  have m := mul_bd9 (a := t) (b := x) htb.1 htb.2 x1 x2
                  obtain ⟨m1, m2⟩ := m
                  have LO0 := Lib.hid (fun u v e w h => rlow_res (t * x + y) x u v e w (by omega) (by omega) (by omega) (by omega) (by omega) h)
                  rcases low_is (n := t * x + y) (d := x) (by omega) with ⟨u, v, h1, h2, -⟩ | ⟨h1, -⟩
                  · have LO := Lib.hid (fun w => LO0.out _ _ _ w h1)
                    clear LO0
                    have HN := Lib.hid (hw1.trans h1)
                    clear hw1 h1 hj h2 hw2
                    go_wp2_with fail
                    refine (J.out _).mono ?_; rintro e w3 ⟨rfl, rfl⟩
                    go_wp2_with fail
                    refine wp_region_alloc 16 8 73 (.agg #[.int .i64 (u), .int .i64 (v)]) (.cells #[.int .i64 0, .int .i64 0] 23) (.cells #[.int .i64 (u), .int .i64 (v)] 23) _ _ (by kernel_rfl) (by kernel_rfl) (by kernel_rfl) (by kernel_rfl) (by simp) rfl rfl (fun _ _ => by kernel_rfl) (stores_two rfl rfl fun a w p h1 h2 c0 c1 f0 f1 => by simp (maxDischargeDepth := 8) [go_sem, *]) ?_
                    apply Exists.intro
                    apply And.intro
                    · intro WW hWW
                      obtain ⟨hcW, hfW⟩ := bcell hWW
                      have hsW := hWW.size
                      try simp at hsW
                      try have hbbW : b < WW.heap.size := by omega
                      try have hzW0 : w.heap.size < WW.heap.size := by omega
                      try have hzW1 : w.heap.size + 1 < WW.heap.size := by omega
                      try have hzW2 : w.heap.size + 1 + 1 < WW.heap.size := by omega
                      try have hzW3 : w.heap.size + 1 + 1 + 1 < WW.heap.size := by omega
                      try have hzW4 : w.heap.size + 1 + 1 + 1 + 1 < WW.heap.size := by omega
                      try have hzW5 : w.heap.size + 1 + 1 + 1 + 1 + 1 < WW.heap.size := by omega
                      try have hy1_W : w1.heap.size < WW.heap.size := by omega
                      try have hy2_W : w2.heap.size < WW.heap.size := by omega
                      try have hy3_W : w3.heap.size < WW.heap.size := by omega
                      try have hp1_W : p1 < WW.heap.size := by omega
                      try have hp2_W : p2 < WW.heap.size := by omega
                      try have hp3_W : p3 < WW.heap.size := by omega
                      simp only [List.take_succ_cons, List.take_zero]
                      repeat (go_big_quiet_step ((go_at_call 73; exact calls_lower _ (LO.out _))))
                      refine wpQuiet_nil ?_
                      exact rfl
                    refine ⟨rfl, ?_⟩
                    intro p4 w4 hb4 hpl4 hpr4 hpo4
                    obtain ⟨hc4, hf4⟩ := bcell hb4
                    have hs4 := hb4.size
                    try simp at hs4
                    try simp at hpl4
                    try have hz40 : w.heap.size < w4.heap.size := by omega
                    try have hz41 : w.heap.size + 1 < w4.heap.size := by omega
                    try have hz42 : w.heap.size + 1 + 1 < w4.heap.size := by omega
                    try have hz43 : w.heap.size + 1 + 1 + 1 < w4.heap.size := by omega
                    try have hz44 : w.heap.size + 1 + 1 + 1 + 1 < w4.heap.size := by omega
                    try have hz45 : w.heap.size + 1 + 1 + 1 + 1 + 1 < w4.heap.size := by omega
                    try have hy1_4 : w1.heap.size < w4.heap.size := by omega
                    try have hy2_4 : w2.heap.size < w4.heap.size := by omega
                    try have hy3_4 : w3.heap.size < w4.heap.size := by omega
                    try have hp1_4 : p1 < w4.heap.size := by omega
                    try have hp2_4 : p2 < w4.heap.size := by omega
                    try have hp3_4 : p3 < w4.heap.size := by omega
                    try have hq40 : w.heap.size < p4 := by omega
                    try have hq41 : w.heap.size + 1 < p4 := by omega
                    try have hq42 : w.heap.size + 1 + 1 < p4 := by omega
                    try have hq43 : w.heap.size + 1 + 1 + 1 < p4 := by omega
                    try have hq44 : w.heap.size + 1 + 1 + 1 + 1 < p4 := by omega
                    try have hq45 : w.heap.size + 1 + 1 + 1 + 1 + 1 < p4 := by omega
                    try have hq1_4 : w1.heap.size < p4 := by omega
                    try have hq2_4 : w2.heap.size < p4 := by omega
                    try have hq3_4 : w3.heap.size < p4 := by omega
                    have hpc4_0 : w4.cell? ⟨p4, 0, none⟩ = some (.int .i64 (u)) := cell_of_block hpo4 rfl
                    have hpc4_1 : w4.cell? ⟨p4, 1, none⟩ = some (.int .i64 (v)) := cell_of_block hpo4 rfl
                    have hpf4_0 := frozen_of_block (o := 0) hpo4
                    have hpf4_1 := frozen_of_block (o := 1) hpo4
                    clear hpo4
                    simp only [List.drop_succ_cons, List.drop_zero, Act.put]
                    go_wp2
                    go_roundw
                    case rel => exact ⟨j, (j : Int) - 1, u, v, rfl, by go_num, by omega, by omega, fun _ => HN.out, by ((repeat' (first | exact Below.refl _ _ | assumption | refine Below.setCell ?_ ?_ _ | refine bdrewN ?_ _ | refine Below.drew ?_ | refine Below.alloc ?_ ?_ _ | refine bbehind ?_ (by assumption) ?_)); all_goals first | (simp; done) | (simp; omega) | omega), (by first | assumption | (simp; done) | (simp; omega) | omega), (by simp (maxDischargeDepth := 8) [go_sem, *]), (by simp (maxDischargeDepth := 8) [go_sem, *]), (by simp (maxDischargeDepth := 8) [go_sem, *]), (by simp (maxDischargeDepth := 8) [go_sem, *]), (by simp (maxDischargeDepth := 8) [go_sem, *]), (by simp (maxDischargeDepth := 8) [go_sem, *]), (by simp (maxDischargeDepth := 8) [go_sem, *]), (by simp (maxDischargeDepth := 8) [go_sem, *])⟩
                    case measure => first | (simp [intOf]; done) | (simp [intOf]; omega)
                  · have LO := Lib.hid (fun w => LO0.out _ _ _ w h1)
                    clear LO0
                    have HR := Lib.hid (show ofT l = (0, 0, 8) from HO.out.trans (stand_fail l j (by rw [HL.out]; omega) (hw1.trans h1)))
                    clear hw1 h1 hj hw2
                    go_wp2_with fail
                    refine (J.out _).mono ?_; rintro e w3 ⟨rfl, rfl⟩
                    go_wp2_with fail
                    refine wp_region_alloc 16 8 73 (.agg #[.int .i64 (0), .int .i64 (0)]) (.cells #[.int .i64 0, .int .i64 0] 23) (.cells #[.int .i64 (0), .int .i64 (0)] 23) _ _ (by kernel_rfl) (by kernel_rfl) (by kernel_rfl) (by kernel_rfl) (by simp) rfl rfl (fun _ _ => by kernel_rfl) (stores_two rfl rfl fun a w p h1 h2 c0 c1 f0 f1 => by simp (maxDischargeDepth := 8) [go_sem, *]) ?_
                    apply Exists.intro
                    apply And.intro
                    · intro WW hWW
                      obtain ⟨hcW, hfW⟩ := bcell hWW
                      have hsW := hWW.size
                      try simp at hsW
                      try have hbbW : b < WW.heap.size := by omega
                      try have hzW0 : w.heap.size < WW.heap.size := by omega
                      try have hzW1 : w.heap.size + 1 < WW.heap.size := by omega
                      try have hzW2 : w.heap.size + 1 + 1 < WW.heap.size := by omega
                      try have hzW3 : w.heap.size + 1 + 1 + 1 < WW.heap.size := by omega
                      try have hzW4 : w.heap.size + 1 + 1 + 1 + 1 < WW.heap.size := by omega
                      try have hzW5 : w.heap.size + 1 + 1 + 1 + 1 + 1 < WW.heap.size := by omega
                      try have hy1_W : w1.heap.size < WW.heap.size := by omega
                      try have hy2_W : w2.heap.size < WW.heap.size := by omega
                      try have hy3_W : w3.heap.size < WW.heap.size := by omega
                      try have hp1_W : p1 < WW.heap.size := by omega
                      try have hp2_W : p2 < WW.heap.size := by omega
                      try have hp3_W : p3 < WW.heap.size := by omega
                      simp only [List.take_succ_cons, List.take_zero]
                      repeat (go_big_quiet_step ((go_at_call 73; exact calls_lower _ (LO.out _))))
                      refine wpQuiet_nil ?_
                      exact rfl
                    refine ⟨rfl, ?_⟩
                    intro p4 w4 hb4 hpl4 hpr4 hpo4
                    obtain ⟨hc4, hf4⟩ := bcell hb4
                    have hs4 := hb4.size
                    try simp at hs4
                    try simp at hpl4
                    try have hz40 : w.heap.size < w4.heap.size := by omega
                    try have hz41 : w.heap.size + 1 < w4.heap.size := by omega
                    try have hz42 : w.heap.size + 1 + 1 < w4.heap.size := by omega
                    try have hz43 : w.heap.size + 1 + 1 + 1 < w4.heap.size := by omega
                    try have hz44 : w.heap.size + 1 + 1 + 1 + 1 < w4.heap.size := by omega
                    try have hz45 : w.heap.size + 1 + 1 + 1 + 1 + 1 < w4.heap.size := by omega
                    try have hy1_4 : w1.heap.size < w4.heap.size := by omega
                    try have hy2_4 : w2.heap.size < w4.heap.size := by omega
                    try have hy3_4 : w3.heap.size < w4.heap.size := by omega
                    try have hp1_4 : p1 < w4.heap.size := by omega
                    try have hp2_4 : p2 < w4.heap.size := by omega
                    try have hp3_4 : p3 < w4.heap.size := by omega
                    try have hq40 : w.heap.size < p4 := by omega
                    try have hq41 : w.heap.size + 1 < p4 := by omega
                    try have hq42 : w.heap.size + 1 + 1 < p4 := by omega
                    try have hq43 : w.heap.size + 1 + 1 + 1 < p4 := by omega
                    try have hq44 : w.heap.size + 1 + 1 + 1 + 1 < p4 := by omega
                    try have hq45 : w.heap.size + 1 + 1 + 1 + 1 + 1 < p4 := by omega
                    try have hq1_4 : w1.heap.size < p4 := by omega
                    try have hq2_4 : w2.heap.size < p4 := by omega
                    try have hq3_4 : w3.heap.size < p4 := by omega
                    have hpc4_0 : w4.cell? ⟨p4, 0, none⟩ = some (.int .i64 (0)) := cell_of_block hpo4 rfl
                    have hpc4_1 : w4.cell? ⟨p4, 1, none⟩ = some (.int .i64 (0)) := cell_of_block hpo4 rfl
                    have hpf4_0 := frozen_of_block (o := 0) hpo4
                    have hpf4_1 := frozen_of_block (o := 1) hpo4
                    clear hpo4
                    simp only [List.drop_succ_cons, List.drop_zero, Act.put]
                    go_wp2
                    rw [HR.out]
                    refine bodyPost_ret (v := .tuple #[.agg #[.int .i64 0, .int .i64 0], .int .i64 8]) (by simp (maxDischargeDepth := 8) [results, Try.results54, go_sem, *]) rfl ?_
                    exact ⟨rfl, by ((repeat' (first | exact Below.refl _ _ | assumption | refine Below.setCell ?_ ?_ _ | refine bdrewN ?_ _ | refine Below.drew ?_ | refine Below.alloc ?_ ?_ _ | refine bbehind ?_ (by assumption) ?_)); all_goals first | (simp; done) | (simp; omega) | omega)⟩
              · rw [inB_no htb] at J
                have HR := Lib.hid (show ofT l = (0, 0, 8) from HO.out.trans (stand_fail l j (by rw [HL.out]; omega) (by rw [drop_at (by rw [HL.out]; omega), HT.out]; exact stand_out htb)))
                go_wp2_with fail
                refine (J.out _).mono ?_; rintro e w3 ⟨rfl, rfl⟩
                go_wp2
                rw [HR.out]
                refine bodyPost_ret (v := .tuple #[.agg #[.int .i64 0, .int .i64 0], .int .i64 8]) (by simp (maxDischargeDepth := 8) [results, Try.results54, go_sem, *]) rfl ?_
                exact ⟨rfl, by ((repeat' (first | exact Below.refl _ _ | assumption | refine Below.setCell ?_ ?_ _ | refine bdrewN ?_ _ | refine Below.drew ?_ | refine Below.alloc ?_ ?_ _ | refine bbehind ?_ (by assumption) ?_)); all_goals first | (simp; done) | (simp; omega) | omega)⟩
end Go.Proofs.Ytgefidffhdanhaa

/- the reference's Of, whole. -/
namespace Go.Proofs.Ytgefidffhdanhaa
open Go.RowKit Go.BigFrame

set_option maxRecDepth 100000 in
set_option maxHeartbeats 2000000 in
theorem rof_any (v : Value) (l : List Int) (w : World) (h : IntsLie w v l) (hl : l.length ≤ 1000000) :
    Calls Try.prog 54 #[v] w fun e w' => e = .returned (.tuple #[.agg #[.int .i64 (ofT l).1, .int .i64 (ofT l).2.1], .int .i64 (ofT l).2.2]) ∧ Below w.heap.size w w' := by
  by_cases h0 : l.length = 0 ∨ 50 < l.length
  · have I := Lib.hid (fun w => in_any (l.length : Int) 1 50 w)
    obtain ⟨a, cap, rfl⟩ := ints_form h
    rw [ofT_many h0]
    rw [inB_no (by omega)] at I
    clear h h0
    go_enter Try.func54, Try.ntmps54
    go_wp2_with fail
    refine (I.out _).mono ?_; rintro e w1 ⟨rfl, rfl⟩
    go_wp2
    refine bodyPost_ret (v := .tuple #[.agg #[.int .i64 0, .int .i64 0], .int .i64 4]) (by simp (maxDischargeDepth := 8) [results, Try.results54, go_sem, *]) rfl ?_
    exact ⟨rfl, by ((repeat' (first | exact Below.refl _ _ | assumption | refine Below.setCell ?_ ?_ _ | refine bdrewN ?_ _ | refine Below.drew ?_ | refine Below.alloc ?_ ?_ _ | refine bbehind ?_ (by assumption) ?_)); all_goals first | (simp; done) | (simp; omega) | omega)⟩
  · obtain ⟨b, off, cap, rfl, hcap, hb, hc⟩ := ints_cells h (by rintro rfl; simp at h0)
    obtain ⟨L, hL⟩ : ∃ L, l.length = L + 1 := ⟨l.length - 1, by omega⟩
    rw [hL]
    exact rof_some b off cap L l w hL (by omega) (by omega) hb hc
end Go.Proofs.Ytgefidffhdanhaa
