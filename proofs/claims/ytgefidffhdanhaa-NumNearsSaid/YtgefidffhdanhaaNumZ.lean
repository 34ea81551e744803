/- Near: the candidates, one by one. -/
import Derived.Test.YtgefidffhdanhaaNumY
import Derived.Test.YtgefidffhdanhaaNumX
import Derived.RangeFuncNested
namespace Go.Proofs.Ytgefidffhdanhaa
open Go.RowKit Go.Shelf

attribute [local go_sem] Oper.semAt_some

/-- a number beside a. -/
abbrev CandOf (an ad : Int) (m : Nat) := { x : Int × Int // Cand an ad m x }

set_option maxHeartbeats 1000000 in
theorem around_in (mf : Nat) (an ad p : Int) (w : World) :
    CallsIn Fence.wide mf Try.prog 103 #[.agg #[.int .i64 an, .int .i64 ad], .int .i64 p] w fun e w' => e = .returned (.func (.func 126) #[] #[.pointer (some ⟨w.heap.size + 1, 0, none⟩), .pointer (some ⟨w.heap.size, 0, none⟩)]) ∧ w' = (w.alloc (.cells #[.int .i64 an, .int .i64 ad] 23)).alloc (.cells #[.int .i64 p] 3) := by
  refine callsIn_of_wp Try.func103 rfl trivial ?_ rfl
  simp only [Try.ntmps103, List.size_toArray, List.length_cons, List.length_nil, Nat.reduceAdd, Nat.reduceSub, Array.replicate_succ, Array.replicate_zero, List.push_toArray, List.append_toArray, List.nil_append, List.cons_append]
  gi_wp2
  go_ret
  exact ⟨rfl, rfl⟩

set_option maxRecDepth 100000 in
set_option maxHeartbeats 2000000 in
theorem arr_iter (mf : Nat) (hmf : 1 ≤ mf) (l b1 b2 n₀ : Nat) (an ad : Int) (m : Nat) (f : Fit an ad) (hm : m ≤ 1000) (J Jx : List (CandOf an ad m) → World → Prop)
    (hY : ∀ pre x W, J pre W → pre.length < 2 * m → YieldAt Fence.wide (mf - 1) Try.prog l #[.agg #[.int .i64 x.1.1, .int .i64 x.1.2]] W fun e W' =>
      (e = .returned (.bool true) ∧ J (pre ++ [x]) W' ∧ Below n₀ W W') ∨ (e = .returned (.bool false) ∧ Jx (pre ++ [x]) W'))
    (W : World) (h1 : W.cell? ⟨b1, 0, none⟩ = some (.int .i64 m)) (h2 : W.cell? ⟨b2, 0, none⟩ = some (.int .i64 an)) (h3 : W.cell? ⟨b2, 1, none⟩ = some (.int .i64 ad)) (k1 : b1 < n₀) (k2 : b2 < n₀) (h0 : J [] W) :
    CallsIn Fence.wide mf Try.prog 126 #[.func (.yield l) #[] #[], .pointer (some ⟨b1, 0, none⟩), .pointer (some ⟨b2, 0, none⟩)] W fun e W' => (∃ v, e = .returned v) ∧
      ((∃ ys : List (CandOf an ad m), ys.map (·.1) = cands an ad m ∧ J ys W') ∨ (∃ pre, True ∧ Jx pre W')) := by
  have pd : 0 < ad := by have := f.dlo; omega
  refine callsIn_of_wp Try.func126 rfl trivial ?_ rfl
  simp only [Try.ntmps126, List.size_toArray, List.length_cons, List.length_nil, Nat.reduceAdd, Nat.reduceSub, Array.replicate_succ, Array.replicate_zero, List.push_toArray, List.append_toArray, List.nil_append, List.cons_append]
  gi_wp2
  gi_loopw [4] (fun a wr => ∃ (k : Nat) (pre : List (CandOf an ad m)), a = .int .i64 ((k : Int) + 1) ∧ k ≤ m ∧ pre.map (·.1) = cands an ad k ∧ J pre wr ∧ wr.cell? ⟨b1, 0, none⟩ = some (.int .i64 m) ∧ wr.cell? ⟨b2, 0, none⟩ = some (.int .i64 an) ∧ wr.cell? ⟨b2, 1, none⟩ = some (.int .i64 ad)) (fun a _ => m + 1 - (intOf a).toNat)
  case atStart => exact ⟨0, [], rfl, Nat.zero_le _, rfl, h0, h1, h2, h3⟩
  case round =>
    obtain ⟨k, pre, rfl, hk, hp, hJ, c1, c2, c3⟩ := hrel
    have HP := Lib.hid hp
    have hlen : pre.length = 2 * k := by
      have := congrArg List.length hp
      rw [cands_len, List.length_map] at this; exact this
    clear hp h1 h2 h3
    by_cases hlt : k < m
    · obtain ⟨x1, x2⟩ := cand_two (an := an) pd (m := m) (d := (k : Int) + 1) (by omega) (by omega)
      have bb := cand_bd f hm x1
      simp only at bb
      obtain ⟨⟨b1', b2'⟩, -, ⟨b5, b6⟩, -, -⟩ := bb
      have FL := Lib.hid (fun w => floor_any (an * ((k : Int) + 1)) ad w (by omega) (by omega) pd (by have := f.dhi; omega))
      have HN := Lib.hid (show cands an ad (k + 1) = cands an ad k ++ [((an * ((k : Int) + 1)) / ad, (k : Int) + 1), ((an * ((k : Int) + 1)) / ad + 1, (k : Int) + 1)] from rfl)
      obtain ⟨fn, tmps, assign, body, hy, hR⟩ := hY pre ⟨((an * ((k : Int) + 1)) / ad, (k : Int) + 1), x1⟩ wr hJ (by omega)
      dsimp only at hy
      gi_wp2_with (refine ⟨trivial, ?_⟩; gi_at_call 85; refine (callsIn_wide.2 (FL.out _)).mono ?_; rintro e w' ⟨rfl, rfl⟩)
      refine hR.mono ?_
      rintro e W3 (⟨rfl, hJ3, hk3⟩ | ⟨rfl, hJx3⟩)
      · have c1' : W3.cell? ⟨b1, 0, none⟩ = some (.int .i64 m) := (hk3.cell (p := ⟨b1, 0, none⟩) k1).trans c1
        have c2' : W3.cell? ⟨b2, 0, none⟩ = some (.int .i64 an) := (hk3.cell (p := ⟨b2, 0, none⟩) k2).trans c2
        have c3' : W3.cell? ⟨b2, 1, none⟩ = some (.int .i64 ad) := (hk3.cell (p := ⟨b2, 1, none⟩) k2).trans c3
        clear hy c1 c2 c3
        obtain ⟨fn2, tmps2, assign2, body2, hy2, hR2⟩ := hY (pre ++ [⟨((an * ((k : Int) + 1)) / ad, (k : Int) + 1), x1⟩]) ⟨((an * ((k : Int) + 1)) / ad + 1, (k : Int) + 1), x2⟩ W3 hJ3 (by simp; omega)
        dsimp only at hy2
        gi_wp2
        refine hR2.mono ?_
        rintro e W4 (⟨rfl, hJ4, hk4⟩ | ⟨rfl, hJx4⟩)
        · have c1'' : W4.cell? ⟨b1, 0, none⟩ = some (.int .i64 m) := (hk4.cell (p := ⟨b1, 0, none⟩) k1).trans c1'
          have c2'' : W4.cell? ⟨b2, 0, none⟩ = some (.int .i64 an) := (hk4.cell (p := ⟨b2, 0, none⟩) k2).trans c2'
          have c3'' : W4.cell? ⟨b2, 1, none⟩ = some (.int .i64 ad) := (hk4.cell (p := ⟨b2, 1, none⟩) k2).trans c3'
          gi_wp2
          go_roundw
          case rel => exact ⟨k + 1, _, by go_num, by omega, by rw [HN.out, ← HP.out]; simp, hJ4, c1'', c2'', c3''⟩
          case measure => simp [intOf]; omega
        · gi_wp2
          refine bodyPost_ret (results_none rfl _ _ _) rfl ?_
          exact ⟨⟨_, rfl⟩, .inr ⟨_, trivial, hJx4⟩⟩
      · gi_wp2
        refine ⟨fun _ h => (by cases h), ?_⟩
        gi_wp2
        refine bodyPost_ret (results_none rfl _ _ _) rfl ?_
        exact ⟨⟨_, rfl⟩, .inr ⟨_, trivial, hJx3⟩⟩
    · have hke : k = m := by omega
      have HE := Lib.hid (show pre.map (·.1) = cands an ad m from HP.out.trans (by rw [hke]))
      gi_wp2
      go_end0
      exact ⟨⟨_, rfl⟩, .inl ⟨pre, HE.out, hJ⟩⟩
end Go.Proofs.Ytgefidffhdanhaa

/- Near: the best of the candidates. -/
namespace Go.Proofs.Ytgefidffhdanhaa
open Go.RowKit Go.Shelf

attribute [local go_sem] Oper.semAt_some

theorem keepsFrom_below {B : Nat} {W W' : World} (h : Below W.heap.size W W') : KeepsFrom B W W' :=
  ⟨h.size, fun k o _ hk _ => by
    have hlt : k < W.heap.size := by
      rcases Nat.lt_or_ge k W.heap.size with h1 | h1
      · exact h1
      · rw [Array.getElem?_eq_none h1] at hk; cases hk
    rw [h.block k hlt]; exact hk⟩

/-- what the loop's own cells hold behind so many candidates. -/
structure NearI (A b0 : Nat) (an ad : Int) (m : Nat) (pre : List (CandOf an ad m)) (W : World) : Prop where
  fn0 : W.cell? ⟨A, 0, none⟩ = some (.func (.func 104) #[] #[.pointer (some ⟨b0, 0, none⟩)])
  r0 : W.cell? ⟨A + 1, 0, none⟩ = some (.int .i64 0)
  r1 : W.cell? ⟨A + 1, 1, none⟩ = some (.int .i64 0)
  rf0 : W.frozen? ⟨A + 1, 0, none⟩ = false
  rf1 : W.frozen? ⟨A + 1, 1, none⟩ = false
  kept : ∃ (x y : Int) (b : Bool), W.cell? ⟨A + 1 + 1, 0, none⟩ = some (.int .i64 x) ∧ W.cell? ⟨A + 1 + 1, 1, none⟩ = some (.int .i64 y) ∧ W.cell? ⟨A + 1 + 1 + 1, 0, none⟩ = some (.bool b) ∧
    (pick an ad (pre.map (·.1)) none = if b = true then some (x, y) else none) ∧ (b = true → Cand an ad m (x, y))
  kf0 : W.frozen? ⟨A + 1 + 1, 0, none⟩ = false
  kf1 : W.frozen? ⟨A + 1 + 1, 1, none⟩ = false
  ff : W.frozen? ⟨A + 1 + 1 + 1, 0, none⟩ = false
  a0 : W.cell? ⟨b0, 0, none⟩ = some (.int .i64 an)
  a1 : W.cell? ⟨b0, 1, none⟩ = some (.int .i64 ad)
theorem near_own (A b0 : Nat) (an ad : Int) (m : Nat) : Own (NearI A b0 an ad m) := fun s W W' row h hg hr => by
  obtain ⟨x, y, b, k0, k1, k2, k3, k4⟩ := h.kept
  exact ⟨cell_kept h.fn0 hg hr, cell_kept h.r0 hg hr, cell_kept h.r1 hg hr, (frozen_kept h.r0 hg hr).trans h.rf0, (frozen_kept h.r1 hg hr).trans h.rf1,
    ⟨x, y, b, cell_kept k0 hg hr, cell_kept k1 hg hr, cell_kept k2 hg hr, k3, k4⟩, (frozen_kept k0 hg hr).trans h.kf0, (frozen_kept k1 hg hr).trans h.kf1, (frozen_kept k2 hg hr).trans h.ff, cell_kept h.a0 hg hr, cell_kept h.a1 hg hr⟩

theorem near_mono {A b0 : Nat} {an ad : Int} {m : Nat} {pre : List (CandOf an ad m)} {W W' : World} (h : NearI A b0 an ad m pre W) (hb : Below W.heap.size W W') (hA : A + 1 + 1 + 1 < W.heap.size) (hb0 : b0 < W.heap.size) : NearI A b0 an ad m pre W' := by
  obtain ⟨hc, hf⟩ := bcell hb
  obtain ⟨x, y, b, q0, q1, q2, q3, q4⟩ := h.kept
  exact ⟨(hc _ _ (by omega)).trans h.fn0, (hc _ _ (by omega)).trans h.r0, (hc _ _ (by omega)).trans h.r1, (hf _ _ (by omega)).trans h.rf0, (hf _ _ (by omega)).trans h.rf1,
    ⟨x, y, b, (hc _ _ (by omega)).trans q0, (hc _ _ (by omega)).trans q1, (hc _ _ (by omega)).trans q2, q3, q4⟩, (hf _ _ (by omega)).trans h.kf0, (hf _ _ (by omega)).trans h.kf1, (hf _ _ (by omega)).trans h.ff, (hc _ _ hb0).trans h.a0, (hc _ _ hb0).trans h.a1⟩

theorem arr_stops (mf : Nat) (hmf : 1 ≤ mf) (b1 b2 n₀ : Nat) (an ad : Int) (m : Nat) (f : Fit an ad) (hm : m ≤ 1000) (w : World) (h1 : w.cell? ⟨b1, 0, none⟩ = some (.int .i64 m)) (h2 : w.cell? ⟨b2, 0, none⟩ = some (.int .i64 an)) (h3 : w.cell? ⟨b2, 1, none⟩ = some (.int .i64 ad))
    (k1 : b1 < n₀) (k2 : b2 < n₀) (hn : n₀ ≤ w.heap.size) :
    SeqStopsK Fence.wide mf Try.prog 126 #[.pointer (some ⟨b1, 0, none⟩), .pointer (some ⟨b2, 0, none⟩)] (fun x : CandOf an ad m => #[.agg #[.int .i64 x.1.1, .int .i64 x.1.2]]) (Below n₀) (fun ys => ys.map (·.1) = cands an ad m) (fun _ => True) (2 * m) w := fun l J Jx W hW _ _ hY h0 =>
  arr_iter mf hmf l b1 b2 n₀ an ad m f hm J Jx hY W ((hW.cell (p := ⟨b1, 0, none⟩) (by show b1 < _; omega)).trans h1) ((hW.cell (p := ⟨b2, 0, none⟩) (by show b2 < _; omega)).trans h2) ((hW.cell (p := ⟨b2, 1, none⟩) (by show b2 < _; omega)).trans h3) k1 k2 h0

set_option maxRecDepth 100000 in
set_option maxHeartbeats 4000000 in
theorem best_in (b0 b1 b2 : Nat) (an ad : Int) (m : Nat) (w : World) (hc : chk an ad = 0) (hm1 : 1 ≤ m) (hm : m ≤ 1000) (c0 : w.cell? ⟨b0, 0, none⟩ = some (.int .i64 an)) (c1 : w.cell? ⟨b0, 1, none⟩ = some (.int .i64 ad))
    (d1 : w.cell? ⟨b1, 0, none⟩ = some (.int .i64 m)) (e0 : w.cell? ⟨b2, 0, none⟩ = some (.int .i64 an)) (e1 : w.cell? ⟨b2, 1, none⟩ = some (.int .i64 ad)) (k0 : b0 < w.heap.size) (k1 : b1 < w.heap.size) (k2 : b2 < w.heap.size) :
    CallsIn Fence.wide 4 Try.prog 102 #[.func (.func 126) #[] #[.pointer (some ⟨b1, 0, none⟩), .pointer (some ⟨b2, 0, none⟩)], .func (.func 104) #[] #[.pointer (some ⟨b0, 0, none⟩)]] w fun e W' =>
      e = .returned (.agg #[.int .i64 (bestQ an ad m).1, .int .i64 (bestQ an ad m).2]) ∧ Below w.heap.size w W' := by
  have f := fit_of_chk hc
  have HB := Lib.hid (best_is (an := an) (den_pos hc) hm1)
  refine callsIn_of_wp_marks Try.func102 rfl trivial ?_ rfl
  simp only [Try.ntmps102, List.size_toArray, List.length_cons, List.length_nil, Nat.reduceAdd, Nat.reduceSub, Array.replicate_succ, Array.replicate_zero, List.push_toArray, List.append_toArray, List.nil_append, List.cons_append]
  gi_wp2
  obtain ⟨W0, hW0⟩ : ∃ W0, ((((w.alloc (.cells #[.func (.func 104) #[] #[.pointer (some ⟨b0, 0, none⟩)]] 58)).alloc (.cells #[.int .i64 0, .int .i64 0] 23)).alloc (.cells #[.int .i64 0, .int .i64 0] 23)).alloc (.cells #[.bool false] 4)) = W0 := ⟨_, rfl⟩
  have hB0 : Below w.heap.size w W0 := by rw [← hW0]; exact ((((Below.refl _ w).alloc (Nat.le_refl _) _).alloc (by simp) _).alloc (by simp; omega) _).alloc (by simp; omega) _
  have hsz : W0.heap.size = w.heap.size + 1 + 1 + 1 + 1 := by rw [← hW0]; simp
  obtain ⟨hcB, hfB⟩ := bcell hB0
  have hN0 : NearI w.heap.size b0 an ad m [] W0 := by
    refine ⟨?_, ?_, ?_, ?_, ?_, ⟨0, 0, false, ?_, ?_, ?_, rfl, fun h => by cases h⟩, ?_, ?_, ?_, (hcB _ _ k0).trans c0, (hcB _ _ k0).trans c1⟩ <;> (rw [← hW0]; simp [go_sem])
  rw [hW0]
  refine wpIn_rangeFunc_ownH rfl (by omega) (gf := 126) (lb := #[.pointer (some ⟨b1, 0, none⟩), .pointer (some ⟨b2, 0, none⟩)]) rfl trivial (enters_of Try.func126 (by kernel_rfl) rfl)
    (arr_stops 3 (by omega) b1 b2 w.heap.size an ad m f hm W0 ((hcB _ _ k1).trans d1) ((hcB _ _ k2).trans e0) ((hcB _ _ k2).trans e1) k1 k2 (by omega)) belowK_t (belowK_b (by omega)) (Below.refl _ _) (fun _ => rfl)
    (fun pre W => (NearI w.heap.size b0 an ad m pre W ∧ Below w.heap.size w W) ∧ w.heap.size + 1 + 1 + 1 < W.heap.size)
    (fun _ _ _ => False)
    (OwnFrom.and (OwnFrom.and (Own.from (near_own _ _ _ _ _) _) (ownFrom_below (Nat.le_refl _) (by omega))) (fun _ _ _ _ hs hg _ => Nat.lt_of_lt_of_le hs hg.size))
    (fun _ _ _ _ _ hs _ _ => hs)
    ⟨⟨hN0, hB0⟩, by omega⟩
    (fun x a' W => ∃ Bx, w.heap.size + 1 + 1 + 1 < Bx ∧ Bx < W.heap.size ∧ W.cell? ⟨Bx, 0, none⟩ = some (.int .i64 x.1.1) ∧ W.cell? ⟨Bx, 1, none⟩ = some (.int .i64 x.1.2) ∧ a' = { tmps := #[.func (.func 126) #[] #[.pointer (some ⟨b1, 0, none⟩), .pointer (some ⟨b2, 0, none⟩)], .func (.func 104) #[] #[.pointer (some ⟨b0, 0, none⟩)], undef, .pointer (some ⟨w.heap.size, 0, none⟩), .pointer (some ⟨w.heap.size + 1, 0, none⟩), .pointer (some ⟨w.heap.size + 1 + 1, 0, none⟩), .pointer (some ⟨w.heap.size + 1 + 1 + 1, 0, none⟩), .pointer (some ⟨Bx, 0, none⟩), .func (.func 126) #[] #[.pointer (some ⟨b1, 0, none⟩), .pointer (some ⟨b2, 0, none⟩)], .agg #[.int .i64 x.1.1, .int .i64 x.1.2], undef, undef, undef, undef, undef, undef, undef, undef, undef, undef], defers := [] })
    (fun x a' _ X Y row hs hg hr => by
      obtain ⟨Bx, h1, h2, h3, h4, h5⟩ := hs
      exact ⟨Bx, h1, Nat.lt_of_lt_of_le h2 hg.size, cell_kept h3 hg (fun r e => (hr r e).2), cell_kept h4 hg (fun r e => (hr r e).2), h5⟩)
    ?assign ?body ?done ?stop
  case assign =>
    rintro l pre x W K ⟨⟨hN, hB⟩, hs⟩ hK
    gi_wp2
    have hal : Below W.heap.size W (W.alloc (.cells #[.int .i64 x.1.1, .int .i64 x.1.2] 23)) := (Below.refl _ W).alloc (Nat.le_refl _) _
    exact hK _ _ ((KeepsOthers.alloc _ _).from _) ((Below.refl _ W).alloc hB.size _) ⟨⟨near_mono hN hal hs (by have := hB.size; omega), hB.alloc hB.size _⟩, by simp; omega⟩ ⟨W.heap.size, by omega, by simp, by simp [go_sem], by simp [go_sem], rfl⟩
  case body =>
    rintro l pre x a' W hl ⟨r, hr⟩ ⟨⟨hN, hB⟩, hs⟩ ⟨Bx, hBx, hBz, x0, x1, rfl⟩ hlt
    obtain ⟨fn0, r0, r1, rf0, rf1, ⟨kx, ky, b, q0, q1, q2, q3, q4⟩, kf0, kf1, ff, a0, a1⟩ := hN
    have HQ3 := Lib.hid q3
    have HQ4 := Lib.hid q4
    clear q3 q4
    have hAW := hB.size
    have g0 : b0 < W.heap.size := by omega
    have g1 : w.heap.size < W.heap.size := by omega
    have g2 : w.heap.size + 1 < W.heap.size := by omega
    have g3 : w.heap.size + 1 + 1 < W.heap.size := by omega
    have n1 : ¬ b0 = w.heap.size + 1 + 1 := by omega
    have n2 : ¬ b0 = w.heap.size + 1 + 1 + 1 := by omega
    have n3 : ¬ w.heap.size + 1 + 1 = b0 := by omega
    have n4 : ¬ w.heap.size + 1 + 1 + 1 = b0 := by omega
    have HS := Lib.hid (pick_snoc an ad (pre.map (·.1)) x.1 none)
    cases b with
    | false =>
      have HP := Lib.hid (show pick an ad ((pre ++ [x]).map (·.1)) none = if true = true then some (x.1.1, x.1.2) else none by
        rw [List.map_append]; show pick an ad (pre.map (·.1) ++ [x.1]) none = _
        rw [HS.out, HQ3.out]; rfl)
      gi_wp2
      refine ⟨fun _ h => (by cases h), ?_⟩
      gi_wp2
      exact ⟨(((KeepsOthers.setCell _ _ _).trans (KeepsOthers.setCell _ _ _)).trans (KeepsOthers.setCell _ _ _)).from _, by ((repeat' (first | exact Below.refl _ _ | assumption | refine Below.setCell ?_ ?_ _ | refine bdrewN ?_ _ | refine Below.drew ?_ | refine Below.alloc ?_ ?_ _ | refine bbehind ?_ (by assumption) ?_)); all_goals first | (simp; done) | (simp; omega) | omega), ⟨⟨⟨(by simp (maxDischargeDepth := 8) [go_sem, *]), (by simp (maxDischargeDepth := 8) [go_sem, *]), (by simp (maxDischargeDepth := 8) [go_sem, *]), (by simp (maxDischargeDepth := 8) [go_sem, *]), (by simp (maxDischargeDepth := 8) [go_sem, *]), ⟨x.1.1, x.1.2, true, (by simp (maxDischargeDepth := 8) [go_sem, *]), (by simp (maxDischargeDepth := 8) [go_sem, *]), (by simp (maxDischargeDepth := 8) [go_sem, *]), HP.out, fun _ => x.2⟩, (by simp (maxDischargeDepth := 8) [go_sem, *]), (by simp (maxDischargeDepth := 8) [go_sem, *]), (by simp (maxDischargeDepth := 8) [go_sem, *]), (by simp (maxDischargeDepth := 8) [go_sem, *]), (by simp (maxDischargeDepth := 8) [go_sem, *])⟩, by ((repeat' (first | exact Below.refl _ _ | assumption | refine Below.setCell ?_ ?_ _ | refine bdrewN ?_ _ | refine Below.drew ?_ | refine Below.alloc ?_ ?_ _ | refine bbehind ?_ (by assumption) ?_)); all_goals first | (simp; done) | (simp; omega) | omega)⟩, (by first | assumption | (simp; done) | (simp; omega) | omega)⟩⟩
    | true =>
      have BT := Lib.hid (better_any b0 an ad x.1.1 x.1.2 kx ky m W f hm x.2 (HQ4.out rfl) a0 a1 g0)
      have HP2 := Lib.hid (show pick an ad ((pre ++ [x]).map (·.1)) none = some (if betterM an ad x.1 (kx, ky) = true then x.1 else (kx, ky)) by
        rw [List.map_append]; show pick an ad (pre.map (·.1) ++ [x.1]) none = _
        rw [HS.out, HQ3.out]; rfl)
      have HBE := Lib.hid (show betterM an ad (x.1.1, x.1.2) (kx, ky) = betterM an ad x.1 (kx, ky) from rfl)
      cases hbt : betterM an ad (x.1.1, x.1.2) (kx, ky) with
      | true =>
        rw [hbt] at BT
        have HP := Lib.hid (show pick an ad ((pre ++ [x]).map (·.1)) none = if true = true then some (x.1.1, x.1.2) else none by
          rw [HP2.out, ← HBE.out, hbt]; rfl)
        clear hbt
        gi_wp2_with (refine ⟨trivial, ?_⟩; gi_at_call 104; refine (CallsIn.inRound l (callsIn_wide.2 BT.out)).mono ?_; rintro e w1 ⟨rfl, hb1⟩; obtain ⟨hc1, hf1⟩ := bcell hb1; have hs1 := hb1.size; have gg0 : b0 < w1.heap.size := by omega)
        exact ⟨(keepsFrom_below hb1).trans ((((KeepsOthers.setCell _ _ _).trans (KeepsOthers.setCell _ _ _)).trans (KeepsOthers.setCell _ _ _)).from _), by ((repeat' (first | exact Below.refl _ _ | assumption | refine Below.setCell ?_ ?_ _ | refine bdrewN ?_ _ | refine Below.drew ?_ | refine Below.alloc ?_ ?_ _ | refine bbehind ?_ (by assumption) ?_)); all_goals first | (simp; done) | (simp; omega) | omega), ⟨⟨⟨(by simp (maxDischargeDepth := 8) [go_sem, *]), (by simp (maxDischargeDepth := 8) [go_sem, *]), (by simp (maxDischargeDepth := 8) [go_sem, *]), (by simp (maxDischargeDepth := 8) [go_sem, *]), (by simp (maxDischargeDepth := 8) [go_sem, *]), ⟨x.1.1, x.1.2, true, (by simp (maxDischargeDepth := 8) [go_sem, *]), (by simp (maxDischargeDepth := 8) [go_sem, *]), (by simp (maxDischargeDepth := 8) [go_sem, *]), HP.out, fun _ => x.2⟩, (by simp (maxDischargeDepth := 8) [go_sem, *]), (by simp (maxDischargeDepth := 8) [go_sem, *]), (by simp (maxDischargeDepth := 8) [go_sem, *]), (by simp (maxDischargeDepth := 8) [go_sem, *]), (by simp (maxDischargeDepth := 8) [go_sem, *])⟩, by ((repeat' (first | exact Below.refl _ _ | assumption | refine Below.setCell ?_ ?_ _ | refine bdrewN ?_ _ | refine Below.drew ?_ | refine Below.alloc ?_ ?_ _ | refine bbehind ?_ (by assumption) ?_)); all_goals first | (simp; done) | (simp; omega) | omega)⟩, (by first | assumption | (simp; done) | (simp; omega) | omega)⟩⟩
      | false =>
        rw [hbt] at BT
        have HC := Lib.hid (HQ4.out rfl)
        have HP := Lib.hid (show pick an ad ((pre ++ [x]).map (·.1)) none = if true = true then some (kx, ky) else none by
          rw [HP2.out, ← HBE.out, hbt]; rfl)
        clear hbt
        gi_wp2_with (refine ⟨trivial, ?_⟩; gi_at_call 104; refine (CallsIn.inRound l (callsIn_wide.2 BT.out)).mono ?_; rintro e w1 ⟨rfl, hb1⟩; obtain ⟨hc1, hf1⟩ := bcell hb1; have hs1 := hb1.size; have gg0 : b0 < w1.heap.size := by omega)
        exact ⟨keepsFrom_below hb1, by ((repeat' (first | exact Below.refl _ _ | assumption | refine Below.setCell ?_ ?_ _ | refine bdrewN ?_ _ | refine Below.drew ?_ | refine Below.alloc ?_ ?_ _ | refine bbehind ?_ (by assumption) ?_)); all_goals first | (simp; done) | (simp; omega) | omega), ⟨⟨⟨(by simp (maxDischargeDepth := 8) [go_sem, *]), (by simp (maxDischargeDepth := 8) [go_sem, *]), (by simp (maxDischargeDepth := 8) [go_sem, *]), (by simp (maxDischargeDepth := 8) [go_sem, *]), (by simp (maxDischargeDepth := 8) [go_sem, *]), ⟨kx, ky, true, (by simp (maxDischargeDepth := 8) [go_sem, *]), (by simp (maxDischargeDepth := 8) [go_sem, *]), (by simp (maxDischargeDepth := 8) [go_sem, *]), HP.out, fun _ => HC.out⟩, (by simp (maxDischargeDepth := 8) [go_sem, *]), (by simp (maxDischargeDepth := 8) [go_sem, *]), (by simp (maxDischargeDepth := 8) [go_sem, *]), (by simp (maxDischargeDepth := 8) [go_sem, *]), (by simp (maxDischargeDepth := 8) [go_sem, *])⟩, by ((repeat' (first | exact Below.refl _ _ | assumption | refine Below.setCell ?_ ?_ _ | refine bdrewN ?_ _ | refine Below.drew ?_ | refine Below.alloc ?_ ?_ _ | refine bbehind ?_ (by assumption) ?_)); all_goals first | (simp; done) | (simp; omega) | omega)⟩, (by first | assumption | (simp; done) | (simp; omega) | omega)⟩⟩
  case done =>
    rintro D ys W hD hys ⟨⟨hN, hB⟩, hs⟩ hK
    obtain ⟨fn0, r0, r1, rf0, rf1, ⟨kx, ky, b, q0, q1, q2, q3, q4⟩, kf0, kf1, ff, a0, a1⟩ := hN
    rw [hys, HB.out.1] at q3
    have hbt : b = true := by cases b with | true => rfl | false => cases q3
    subst hbt
    have hq : bestQ an ad m = (kx, ky) := by simpa using q3
    have HQ := Lib.hid hq
    clear q3 q4 hq
    have hK2 : ((W.setCell ⟨w.heap.size + 1, 0, none⟩ (.int .i64 kx)).setCell ⟨w.heap.size + 1, 1, none⟩ (.int .i64 ky)).heap[D]? = some (.deferred (some [])) := ((KeepsOthers.setCell W _ _).trans (KeepsOthers.setCell _ _ _)).same D _ hK rfl
    gi_wp2
    refine ⟨by simp, .inl ⟨_, _, rfl, run_takeDeferred hK2, ?_⟩⟩
    have hb2 := belowK_b (w := W0) (Nat.le_refl _) _ D _ (.deferred none) (by simpa using hD) hK2 rfl rfl
    have v0 := hb2.cell (p := ⟨w.heap.size + 1, 0, none⟩) (by show w.heap.size + 1 < _; omega)
    have v1 := hb2.cell (p := ⟨w.heap.size + 1, 1, none⟩) (by show w.heap.size + 1 < _; omega)
    have hbx : Below w.heap.size w ((W.setCell ⟨w.heap.size + 1, 0, none⟩ (.int .i64 kx)).setCell ⟨w.heap.size + 1, 1, none⟩ (.int .i64 ky)) := by ((repeat' (first | exact Below.refl _ _ | assumption | refine Below.setCell ?_ ?_ _ | refine bdrewN ?_ _ | refine Below.drew ?_ | refine Below.alloc ?_ ?_ _ | refine bbehind ?_ (by assumption) ?_)); all_goals first | (simp; done) | (simp; omega) | omega)
    have hbb := hbx.trans (hb2.mono (by omega))
    have g1 : w.heap.size < W.heap.size := by omega
    have g2 : w.heap.size + 1 < W.heap.size := by omega
    generalize ((W.setCell ⟨w.heap.size + 1, 0, none⟩ (.int .i64 kx)).setCell ⟨w.heap.size + 1, 1, none⟩ (.int .i64 ky)).putObj D (.deferred none) = Wf at v0 v1 hbb ⊢
    have u0 : Wf.cell? ⟨w.heap.size + 1, 0, none⟩ = some (.int .i64 kx) := by rw [v0]; exact (by simp (maxDischargeDepth := 8) [go_sem, *])
    have u1 : Wf.cell? ⟨w.heap.size + 1, 1, none⟩ = some (.int .i64 ky) := by rw [v1]; exact (by simp (maxDischargeDepth := 8) [go_sem, *])
    exact ⟨.agg #[.int .i64 kx, .int .i64 ky], by simp (maxDischargeDepth := 8) [results, go_sem, Try.results102, u0, u1], by rw [HQ.out], hbb⟩
  case stop =>
    rintro D c pre W _ _ h _
    exact h.elim
end Go.Proofs.Ytgefidffhdanhaa
