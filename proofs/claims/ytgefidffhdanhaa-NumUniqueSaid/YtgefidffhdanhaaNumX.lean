/- Terms: a range over a function. -/
import Derived.Test.YtgefidffhdanhaaNumW
import Derived.RangeFuncBox
import Derived.RangeFuncLeaves
import Derived.Shelf.Abstract
import Derived.OwnWalkIn
import Derived.TacticsInMore
import Derived.LoopNIn
import Derived.LoopIn
import Derived.Maps.AppendAt
import Derived.Test.YtgefidffhdanhaaAllocTail
namespace Go.Proofs.Ytgefidffhdanhaa
open Go.RowKit Go.Shelf

attribute [local go_sem] Oper.semAt_some

set_option maxHeartbeats 1000000 in
theorem quotients_in (m : Nat) (n d : Int) (w : World) :
    CallsIn Fence.wide m Try.prog 108 #[.int .i64 n, .int .i64 d] w fun e w' => e = .returned (.func (.func 127) #[] #[.pointer (some ⟨w.heap.size, 0, none⟩), .pointer (some ⟨w.heap.size + 1, 0, none⟩)]) ∧ w' = (w.alloc (.cells #[.int .i64 n] 3)).alloc (.cells #[.int .i64 d] 3) := by
  refine callsIn_of_wp Try.func108 rfl trivial ?_ rfl
  simp only [Try.ntmps108, List.size_toArray, List.length_cons, List.length_nil, Nat.reduceAdd, Nat.reduceSub, Array.replicate_succ, Array.replicate_zero, List.push_toArray, List.append_toArray, List.nil_append, List.cons_append]
  gi_wp2
  go_ret
  exact ⟨rfl, rfl⟩

set_option maxRecDepth 100000 in
set_option maxHeartbeats 1000000 in
theorem quo_iter (m : Nat) (hm : 1 ≤ m) (l b1 b2 n₀ : Nat) (n d : Int) (J Jx : List Int → World → Prop) (hn1 : -1000000000 ≤ n) (hn2 : n ≤ 1000000000) (hd1 : 0 ≤ d) (hd2 : d ≤ 1000000000)
    (hY : ∀ pre x W, J pre W → pre.length < (quo n d).length → YieldAt Fence.wide (m - 1) Try.prog l #[.int .i64 x] W fun e W' =>
      (e = .returned (.bool true) ∧ J (pre ++ [x]) W' ∧ Below n₀ W W') ∨ (e = .returned (.bool false) ∧ Jx (pre ++ [x]) W'))
    (W : World) (h1 : W.cell? ⟨b1, 0, none⟩ = some (.int .i64 n)) (h2 : W.cell? ⟨b2, 0, none⟩ = some (.int .i64 d)) (h0 : J [] W.drew) :
    CallsIn Fence.wide m Try.prog 127 #[.func (.yield l) #[] #[], .pointer (some ⟨b1, 0, none⟩), .pointer (some ⟨b2, 0, none⟩)] W fun e W' => (∃ v, e = .returned v) ∧
      ((∃ ys, ys = quo n d ∧ J ys W') ∨ (∃ pre, pre <+: quo n d ∧ Jx pre W')) := by
  refine callsIn_of_wp Try.func127 rfl trivial ?_ rfl
  simp only [Try.ntmps127, List.size_toArray, List.length_cons, List.length_nil, Nat.reduceAdd, Nat.reduceSub, Array.replicate_succ, Array.replicate_zero, List.push_toArray, List.append_toArray, List.nil_append, List.cons_append]
  gi_wp2
  gi_region
  gi_wp2
  gi_loopw [4, 5] (fun a b wr => ∃ (pre : List Int) (x y : Int), a = .int .i64 x ∧ b = .int .i64 y ∧ quo n d = pre ++ quo x y ∧ J pre wr ∧ -1000000000 ≤ x ∧ x ≤ 1000000000 ∧ 0 ≤ y ∧ y ≤ 1000000000) (fun _ b _ => (intOf b).toNat)
  case atStart => exact ⟨[], n, d, rfl, rfl, rfl, h0, hn1, hn2, hd1, hd2⟩
  case round =>
    obtain ⟨pre, x, y, rfl, rfl, hq, hJ, x1, x2, y1, y2⟩ := hrel
    have HQ := Lib.hid hq
    by_cases hy0 : 0 < y
    · have hlen : pre.length < (quo n d).length := by rw [hq, quo_pos hy0]; simp
      have HR := Lib.hid (show quo n d = (pre ++ [x / y]) ++ quo y (x % y) by rw [hq, quo_pos hy0]; simp)
      clear hq
      have e1 := Int.mul_ediv_add_emod x y
      have e2 := Int.emod_nonneg x (show y ≠ 0 by omega)
      have e3 := Int.emod_lt_of_pos x hy0
      have e4 : x - x / y * y = x % y := by rw [Int.mul_comm] at e1; omega
      have e5 : -2000000000 ≤ x / y * y := by omega
      have e6 : x / y * y ≤ 2000000000 := by omega
      clear e1
      have e7 := Lib.hid e4
      have FL := Lib.hid (fun w => floor_any x y w (by omega) (by omega) hy0 (by omega))
      obtain ⟨fn, tmps, assign, body, hy, hR⟩ := hY pre (x / y) wr hJ hlen
      gi_wp2_with (refine ⟨trivial, ?_⟩; gi_at_call 85; refine (callsIn_wide.2 (FL.out _)).mono ?_; rintro e w' ⟨rfl, rfl⟩)
      refine hR.mono ?_
      rintro e W3 (⟨rfl, hJ3, hk3⟩ | ⟨rfl, hJx3⟩)
      · gi_wp2
        go_roundw
        case rel => exact ⟨pre ++ [x / y], y, x % y, rfl, rfl, HR.out, hJ3, by omega, by omega, by omega, by omega⟩
        case measure => simp [intOf]; omega
      · gi_wp2
        refine bodyPost_ret (results_none rfl _ _ _) rfl ?_
        exact ⟨⟨_, rfl⟩, .inr ⟨pre ++ [x / y], ⟨quo y (x % y), HR.out.symm⟩, hJx3⟩⟩
    · have HE := Lib.hid (show pre = quo n d by rw [hq, quo_zero hy0]; simp)
      clear hq
      gi_wp2
      go_end0
      exact ⟨⟨_, rfl⟩, .inl (by rw [← HE.out]; exact hJ)⟩

theorem quo_stops (m : Nat) (hm : 1 ≤ m) (b1 b2 n₀ : Nat) (n d : Int) (w : World) (hn1 : -1000000000 ≤ n) (hn2 : n ≤ 1000000000) (hd1 : 0 ≤ d) (hd2 : d ≤ 1000000000)
    (k1 : b1 < w.heap.size) (k2 : b2 < w.heap.size) (h1 : w.cell? ⟨b1, 0, none⟩ = some (.int .i64 n)) (h2 : w.cell? ⟨b2, 0, none⟩ = some (.int .i64 d)) :
    SeqStopsK Fence.wide m Try.prog 127 #[.pointer (some ⟨b1, 0, none⟩), .pointer (some ⟨b2, 0, none⟩)] (fun x : Int => #[Value.int .i64 x]) (Below n₀) (fun ys => ys = quo n d) (fun pre => pre <+: quo n d) (quo n d).length w := fun l J Jx W hW hJ _ hY h0 =>
  quo_iter m hm l b1 b2 n₀ n d J Jx hn1 hn2 hd1 hd2 hY W ((hW.cell (p := ⟨b1, 0, none⟩) k1).trans h1) ((hW.cell (p := ⟨b2, 0, none⟩) k2).trans h2)
    (hJ [] W W.drew none h0 ⟨rfl, rfl, rfl, Nat.le_refl _, fun _ _ _ => rfl⟩ (fun r e => by cases e))

theorem infoInt : (Try.prog.info? 3).map (fun i => (i.zero, i.size, i.bytes)) = some (some (.int .i64 0), 1, 8) := by kernel_rfl

set_option maxRecDepth 100000 in
set_option maxHeartbeats 4000000 in
theorem terms_in (n d : Int) (w : World) (hc : chk n d = 0) :
    CallsIn Fence.wide 4 Try.prog 51 #[.agg #[.int .i64 n, .int .i64 d]] w fun e W' => ∃ v base, e = .returned (.tuple #[v, .int .i64 0]) ∧ W'.ownsRow base 3 1 v (quo n d).length ((quo n d).map (Value.int .i64)) ∧ Below w.heap.size w W' ∧ w.heap.size ≤ base := by
  have f := fit_of_chk hc
  obtain ⟨f1, f2, f3, f4⟩ := f
  have C := Lib.hid (fun w => check_any n d w)
  rw [hc] at C
  obtain ⟨i0, hi, hz0, hz1, hz2⟩ := info_parts infoInt
  refine callsIn_of_wp_marks Try.func51 rfl trivial ?_ rfl
  simp only [Try.ntmps51, List.size_toArray, List.length_cons, List.length_nil, Nat.reduceAdd, Nat.reduceSub, Array.replicate_succ, Array.replicate_zero, List.push_toArray, List.append_toArray, List.nil_append, List.cons_append]
  gi_wp2_with (first | (refine ⟨trivial, ?_⟩; gi_at_call 16; refine (callsIn_wide.2 (C.out _)).mono ?_; rintro e w1 ⟨rfl, hb1⟩; obtain ⟨hc1, hf1⟩ := bcell hb1; have hs1 := hb1.size; (try simp at hs1); have hz10 : w.heap.size < w1.heap.size := by omega) | (refine ⟨trivial, ?_⟩; gi_at_call 108; refine (quotients_in _ _ _ _).mono ?_; rintro e w' ⟨rfl, rfl⟩))
  have bO := Boxed.new w1 44 (.slice none 0 0)
  have bN := Boxed.new (w1.alloc (.cells #[.slice none 0 0] 44)) 3 (.int .i64 n)
  have bD := Boxed.new ((w1.alloc (.cells #[.slice none 0 0] 44)).alloc (.cells #[.int .i64 n] 3)) 3 (.int .i64 d)
  simp only [World.size_alloc] at bN bD
  have hB0 : Below w1.heap.size w1 (((w1.alloc (.cells #[.slice none 0 0] 44)).alloc (.cells #[.int .i64 n] 3)).alloc (.cells #[.int .i64 d] 3)) := (((Below.refl _ w1).alloc (Nat.le_refl _) _).alloc (by simp) _).alloc (by simp; omega) _
  have hql := quo_len (n := n) f4
  have hM : 60 ≤ maxLen := by unfold maxLen; omega
  refine wpIn_rangeFunc_ownG rfl (by omega) (gf := 127) (lb := #[.pointer (some ⟨w1.heap.size + 1, 0, none⟩), .pointer (some ⟨w1.heap.size + 1 + 1, 0, none⟩)]) rfl trivial (enters_of Try.func127 (by kernel_rfl) rfl)
    (quo_stops 3 (by omega) (w1.heap.size + 1) (w1.heap.size + 1 + 1) w1.heap.size n d _ f1 f2 (by omega) f4 (by simp) (by simp) (bN.alloc _).cell bD.cell) belowK_t (belowK_b (by simp; omega)) (Below.refl _ _) (fun _ => rfl)
    (fun pre W => (∃ v, Boxed W w1.heap.size 44 v ∧ W.ownsRow w1.heap.size 3 1 v pre.length (pre.map (Value.int .i64)) ∧ True) ∧ Below w1.heap.size w1 W)
    (fun _ _ _ => False)
    (OwnFrom.and (Own.from (holdsRow_own w1.heap.size w1.heap.size 44 3 1 (fun pre : List Int => pre.length) (fun pre : List Int => pre.map (Value.int .i64)) (fun _ _ => True)) _) (ownFrom_below (Nat.le_refl _) (by simp; omega)))
    (fun _ _ _ _ _ hs _ _ => hs)
    ⟨⟨_, (bO.alloc _).alloc _, World.ownsRow_nil _ _ _ _, trivial⟩, hB0⟩
    (fun x => { tmps := #[.agg #[.int .i64 n, .int .i64 d], .pointer (some ⟨w.heap.size, 0, none⟩), .slice none 0 0, .int .i64 0, .int .i64 0, .pointer (some ⟨w1.heap.size, 0, none⟩), .int .i64 x, .agg #[.int .i64 n, .int .i64 d], .int .i64 0, .int .i64 0, .bool false, undef, .pointer (some ⟨w.heap.size, 0, none⟩), .int .i64 n, .pointer (some ⟨w.heap.size, 1, none⟩), .int .i64 d, .func (.func 127) #[] #[.pointer (some ⟨w1.heap.size + 1, 0, none⟩), .pointer (some ⟨w1.heap.size + 1 + 1, 0, none⟩)], .int .i64 x, undef, undef, undef, undef, undef], defers := [] }) ?assign ?body ?done ?stop
  case assign =>
    intro l x W K hK
    gi_wp2
    exact hK
  case body =>
    rintro l pre x W ⟨⟨v, hv, hrow, -⟩, hB⟩ hlt
    have hc := hv.cell
    gi_wp2_with (gi_at_builtin; refine wpListIn_append_own _ rfl _ _ 44 rfl w1.heap.size 3 i0 (.int .i64 0) 1 8 Try.underlying44 hi hz0 hz1 hz2 rfl (by decide) _ _ _ rfl (hrow.alloc _) ⟨W.heap.size, 0, none⟩ 1 1 [.int .i64 x] rfl rfl (cell_one_new _ _ _) (by simp [Value.oneCell']) (by omega) (by omega) (by have := hB.size; simp; omega) ?_; intro v' w2 hown' hgrow _; obtain ⟨g', cap', rfl⟩ := ownsRow_succ hown'; obtain ⟨hv1, hv2, hr2, hk2, hb2⟩ := hv.appended (by decide) hrow hB.size (Nat.le_refl _) hown' hgrow; have hc1 := hv1.cell; have hf1 := hv1.frozen)
    exact ⟨hk2.from _, hb2, ⟨_, hv2, by simpa using hr2, trivial⟩, hB.trans hb2⟩
  case done =>
    rintro D ys W hD rfl ⟨⟨v, hv, hrow, -⟩, hB⟩ hK
    have hc := hv.cell
    gi_wp2
    refine ⟨by simp, .inl ⟨_, _, rfl, run_takeDeferred hK, ?_⟩⟩
    exact ⟨_, results_tmp2 rfl _ _ _, v, _, rfl, ownsRow_putObj hrow _ hK rfl, bbehind (bbehind ((Below.refl _ _).alloc (Nat.le_refl _) _) hb1 (by simp)) (hB.trans (belowK_b (w := w1) (Nat.le_refl _) W D _ _ (by simp at hD; omega) hK rfl rfl)) (by omega), by omega⟩
  case stop =>
    rintro D c pre W _ _ h _
    exact h.elim

/-- a slice that lies in no block below B. -/
def OwnAt (B : Nat) (v : Value) : Prop := ∀ a len cap, v = .slice (some a) len cap → B ≤ a.block
theorem ownAt_owned {W : World} {base B : Nat} {e : TypeId} {v : Value} {n : Nat} {xs : List Value} (h : W.ownsRow base e 1 v n xs) (hB : B ≤ base) : OwnAt B v := by
  rcases h.2 with ⟨rfl, h0⟩ | ⟨g, cap, cur, rfl, hb, _⟩
  · intro a len cap h; simp at h
  · intro a len cap h
    simp only [Value.slice.injEq, Option.some.injEq] at h
    obtain ⟨rfl, -, -⟩ := h
    show B ≤ g
    omega
theorem lies_owned {W : World} {base : Nat} {e : TypeId} {v : Value} {l : List Int} (h : W.ownsRow base e 1 v l.length (l.map (Value.int .i64))) : IntsLie W v l := by
  rcases h.2 with ⟨rfl, h0⟩ | ⟨g, cap, cur, rfl, hb, hg, hn, hcap, hs, ht⟩
  · exact .inl ⟨_, _, rfl, List.eq_nil_of_length_eq_zero h0⟩
  · refine .inr ⟨g, 0, cap, rfl, hn, ?_, fun k hk => ?_⟩
    · rcases Nat.lt_or_ge g W.heap.size with hlt | hge
      · exact hlt
      · rw [Array.getElem?_eq_none hge] at hg; cases hg
    · rw [Nat.zero_add]
      refine cell_of_block (T := e) hg ?_
      have h1 : (cur.toList.take (l.length * 1))[k]? = (l.map (Value.int .i64))[k]? := by rw [ht]
      rw [List.getElem?_take, if_pos (by omega), List.getElem?_map, List.getElem?_eq_getElem hk] at h1
      rw [List.getD_eq_getElem?_getD, List.getElem?_eq_getElem hk, Option.getD_some, ← Array.getElem?_toList]
      exact h1

set_option maxHeartbeats 1000000 in
theorem terms_ok (n d : Int) (w : World) (hc : chk n d = 0) :
    Calls Try.prog 51 #[.agg #[.int .i64 n, .int .i64 d]] w fun e W' => ∃ v, e = .returned (.tuple #[v, .int .i64 0]) ∧ IntsLie W' v (quo n d) ∧ Below w.heap.size w W' ∧ OwnAt w.heap.size v :=
  (callsIn_wide.1 (terms_in n d w hc)).mono fun _ _ ⟨v, _, h1, h2, h3, h4⟩ => ⟨v, h1, lies_owned h2, h3, ownAt_owned h2 h4⟩
end Go.Proofs.Ytgefidffhdanhaa
