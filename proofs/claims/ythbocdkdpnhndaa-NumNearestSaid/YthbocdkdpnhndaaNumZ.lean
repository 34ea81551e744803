/- Near: the candidates, one by one. -/
import Derived.Test.YthbocdkdpnhndaaNumY
import Derived.Test.YthbocdkdpnhndaaNumX
import Derived.RangeFuncNested
namespace Go.Proofs.Ythbocdkdpnhndaa
open Go.RowKit Go.Shelf

attribute [local go_sem] Oper.semAt_some

/-- a number beside a. -/
abbrev CandOf (an ad : Int) (m : Nat) := { x : Int × Int // Cand an ad m x }

set_option maxHeartbeats 1000000 in
theorem around_in (mf : Nat) (an ad p : Int) (w : World) :
    CallsIn Fence.wide mf Try.prog 103 #[.agg #[.int .i64 an, .int .i64 ad], .int .i64 p] w fun e w' => e = .returned (.func (.func 126) #[] #[.pointer (some ⟨w.heap.size + 1, 0, none⟩), .pointer (some ⟨w.heap.size, 0, none⟩)]) ∧ w' = (w.alloc (.cells #[.int .i64 an, .int .i64 ad] 23)).alloc (.cells #[.int .i64 p] 3) := by
  refine callsIn_of_wp Try.func103 rfl trivial ?_ rfl
  simp only [Try.ntmps103, List.size_toArray, List.length_cons, List.length_nil, Nat.reduceAdd, Nat.reduceSub, Array.replicate_succ, Array.replicate_zero, List.push_toArray, List.append_toArray, List.nil_append, List.cons_append]
  gi_wp2
  go_ret
  exact ⟨rfl, rfl⟩

set_option maxRecDepth 100000 in
set_option maxHeartbeats 2000000 in
theorem arr_iter (mf : Nat) (hmf : 1 ≤ mf) (l b1 b2 n₀ : Nat) (an ad : Int) (m : Nat) (f : Fit an ad) (hm : m ≤ 1000) (J Jx : List (CandOf an ad m) → World → Prop)
    (hY : ∀ pre x W, J pre W → pre.length < 2 * m → YieldAt Fence.wide (mf - 1) Try.prog l #[.agg #[.int .i64 x.1.1, .int .i64 x.1.2]] W fun e W' =>
      (e = .returned (.bool true) ∧ J (pre ++ [x]) W' ∧ Below n₀ W W') ∨ (e = .returned (.bool false) ∧ Jx (pre ++ [x]) W'))
    (W : World) (h1 : W.cell? ⟨b1, 0, none⟩ = some (.int .i64 m)) (h2 : W.cell? ⟨b2, 0, none⟩ = some (.int .i64 an)) (h3 : W.cell? ⟨b2, 1, none⟩ = some (.int .i64 ad)) (k1 : b1 < n₀) (k2 : b2 < n₀) (h0 : J [] W) :
    CallsIn Fence.wide mf Try.prog 126 #[.func (.yield l) #[] #[], .pointer (some ⟨b1, 0, none⟩), .pointer (some ⟨b2, 0, none⟩)] W fun e W' => (∃ v, e = .returned v) ∧
      ((∃ ys : List (CandOf an ad m), ys.map (·.1) = cands an ad m ∧ J ys W') ∨ (∃ pre, True ∧ Jx pre W')) := by
  have pd : 0 < ad := by have := f.dlo; omega
  refine callsIn_of_wp Try.func126 rfl trivial ?_ rfl
  simp only [Try.ntmps126, List.size_toArray, List.length_cons, List.length_nil, Nat.reduceAdd, Nat.reduceSub, Array.replicate_succ, Array.replicate_zero, List.push_toArray, List.append_toArray, List.nil_append, List.cons_append]
  gi_wp2
  gi_loopw [4] (fun a wr => ∃ (k : Nat) (pre : List (CandOf an ad m)), a = .int .i64 ((k : Int) + 1) ∧ k ≤ m ∧ pre.map (·.1) = cands an ad k ∧ J pre wr ∧ wr.cell? ⟨b1, 0, none⟩ = some (.int .i64 m) ∧ wr.cell? ⟨b2, 0, none⟩ = some (.int .i64 an) ∧ wr.cell? ⟨b2, 1, none⟩ = some (.int .i64 ad)) (fun a _ => m + 1 - (intOf a).toNat)
  case atStart => exact ⟨0, [], rfl, Nat.zero_le _, rfl, h0, h1, h2, h3⟩
  case round =>
    obtain ⟨k, pre, rfl, hk, hp, hJ, c1, c2, c3⟩ := hrel
    have HP := Lib.hid hp
    have hlen : pre.length = 2 * k := by
      have := congrArg List.length hp
      rw [cands_len, List.length_map] at this; exact this
    clear hp h1 h2 h3
    by_cases hlt : k < m
    · obtain ⟨x1, x2⟩ := cand_two (an := an) pd (m := m) (d := (k : Int) + 1) (by omega) (by omega)
      have bb := cand_bd f hm x1
      simp only at bb
      obtain ⟨⟨b1', b2'⟩, -, ⟨b5, b6⟩, -, -⟩ := bb
      have FL := Lib.hid (fun w => floor_any (an * ((k : Int) + 1)) ad w (by omega) (by omega) pd (by have := f.dhi; omega))
      have HN := Lib.hid (show cands an ad (k + 1) = cands an ad k ++ [((an * ((k : Int) + 1)) / ad, (k : Int) + 1), ((an * ((k : Int) + 1)) / ad + 1, (k : Int) + 1)] from rfl)
      obtain ⟨fn, tmps, assign, body, hy, hR⟩ := hY pre ⟨((an * ((k : Int) + 1)) / ad, (k : Int) + 1), x1⟩ wr hJ (by omega)
      dsimp only at hy
      gi_wp2_with (refine ⟨trivial, ?_⟩; gi_at_call 85; refine (callsIn_wide.2 (FL.out _)).mono ?_; rintro e w' ⟨rfl, rfl⟩)
      refine hR.mono ?_
      rintro e W3 (⟨rfl, hJ3, hk3⟩ | ⟨rfl, hJx3⟩)
      · have c1' : W3.cell? ⟨b1, 0, none⟩ = some (.int .i64 m) := (hk3.cell (p := ⟨b1, 0, none⟩) k1).trans c1
        have c2' : W3.cell? ⟨b2, 0, none⟩ = some (.int .i64 an) := (hk3.cell (p := ⟨b2, 0, none⟩) k2).trans c2
        have c3' : W3.cell? ⟨b2, 1, none⟩ = some (.int .i64 ad) := (hk3.cell (p := ⟨b2, 1, none⟩) k2).trans c3
        clear hy c1 c2 c3
        obtain ⟨fn2, tmps2, assign2, body2, hy2, hR2⟩ := hY (pre ++ [⟨((an * ((k : Int) + 1)) / ad, (k : Int) + 1), x1⟩]) ⟨((an * ((k : Int) + 1)) / ad + 1, (k : Int) + 1), x2⟩ W3 hJ3 (by simp; omega)
        dsimp only at hy2
        gi_wp2
        refine hR2.mono ?_
        rintro e W4 (⟨rfl, hJ4, hk4⟩ | ⟨rfl, hJx4⟩)
        · have c1'' : W4.cell? ⟨b1, 0, none⟩ = some (.int .i64 m) := (hk4.cell (p := ⟨b1, 0, none⟩) k1).trans c1'
          have c2'' : W4.cell? ⟨b2, 0, none⟩ = some (.int .i64 an) := (hk4.cell (p := ⟨b2, 0, none⟩) k2).trans c2'
          have c3'' : W4.cell? ⟨b2, 1, none⟩ = some (.int .i64 ad) := (hk4.cell (p := ⟨b2, 1, none⟩) k2).trans c3'
          gi_wp2
          go_roundw
          case rel => exact ⟨k + 1, _, by go_num, by omega, by rw [HN.out, ← HP.out]; simp, hJ4, c1'', c2'', c3''⟩
          case measure => simp [intOf]; omega
        · gi_wp2
          refine bodyPost_ret (results_none rfl _ _ _) rfl ?_
          exact ⟨⟨_, rfl⟩, .inr ⟨_, trivial, hJx4⟩⟩
      · gi_wp2
        refine ⟨fun _ h => (by cases h), ?_⟩
        gi_wp2
        refine bodyPost_ret (results_none rfl _ _ _) rfl ?_
        exact ⟨⟨_, rfl⟩, .inr ⟨_, trivial, hJx3⟩⟩
    · have hke : k = m := by omega
      have HE := Lib.hid (show pre.map (·.1) = cands an ad m from HP.out.trans (by rw [hke]))
      gi_wp2
      go_end0
      exact ⟨⟨_, rfl⟩, .inl ⟨pre, HE.out, hJ⟩⟩
end Go.Proofs.Ythbocdkdpnhndaa
