/- What the proof of PrfTreeEdits rests on, part 9 of 14. -/
import Derived.Deep.DeepCutAuto
import Derived.Lib.AppendZeros
import Derived.Test.YtcgedpfolloinaaGreatPPrfTreeEdits8
namespace Go.Proofs.YtcgedpfolloinaaGreat
open Go.RowKit

theorem take_snoc : ∀ {f : Fo} {k : Nat} {h : Hd} {ks r : Fo}, f.drop k = .cons h ks r → f.take (k + 1) = (f.take k).app (.cons h ks .nil)
  | .nil, k, _, _, _, e => by rw [Fo.drop_nil] at e; cases e
  | .cons h0 k0 r0, 0, h, ks, r, e => by
    simp only [Fo.drop, Fo.cons.injEq] at e
    obtain ⟨rfl, rfl, rfl⟩ := e
    cases r0 <;> rfl
  | .cons h0 k0 r0, k + 1, h, ks, r, e => by
    have ih := @take_snoc r0 k h ks r (by simpa [Fo.drop] using e)
    show Fo.cons h0 k0 (r0.take (k + 1)) = _
    rw [ih]; rfl
theorem take_all : ∀ (f : Fo), f.take f.len = f
  | .nil => rfl
  | .cons h ks r => by show Fo.cons h ks (r.take r.len) = _; rw [take_all r]
theorem len_take : ∀ (f : Fo) (k : Nat), k ≤ f.len → (f.take k).len = k
  | .nil, k, h => by simp [Fo.len] at h; subst h; rfl
  | .cons h ks r, 0, _ => rfl
  | .cons h ks r, k + 1, hk => by show (r.take k).len + 1 = _; rw [len_take r k (by simp [Fo.len] at hk; omega)]

set_option maxRecDepth 100000 in
set_option maxHeartbeats 8000000 in
theorem copyOf_of (f : Fo) (v : Value) (w : World) (hl : Lies w v f) (hln : f.len ≤ 1000000)
    (HT : ∀ hd ks, (∃ j, j < f.len ∧ f.drop j = .cons hd ks (f.drop (j + 1))) → ∀ v w, Lies w v ks → Calls Tryz.prog 95 #[v] w (CloneRes w ks)) :
    Calls Tryz.prog 95 #[v] w (CloneRes w f) := by
  obtain ⟨i0, hi, hz0, hz1, hz2⟩ := info_parts info_tree
  have hlen := lies_len hl
  have HL := Lib.hid hl
  have HT' := Lib.hid HT
  obtain ⟨av, cv, rfl⟩ := lies_form hl
  clear hl HT
  go_enter Tryz.func95, Tryz.ntmps95
  go_wp2_with fail
  go_loopw [3, 4] (fun v3 i wr => ∃ (k g : Nat) (a : Option Addr) (cap : Nat) (cs : List Value), i = .int .i64 k ∧ k ≤ f.len ∧ v3 = .slice a k cap ∧ (∀ b, (Value.slice a k cap).ownBlock = some b → b = g) ∧ wr.ownsRow w.heap.size 43 7 (.slice a k cap) k cs ∧ Stab w.heap.size g wr (f.take k) cs ∧ Below w.heap.size w wr) (fun _ i _ => f.len - (intOf i).toNat)
  case atStart =>
    refine ⟨0, 0, none, 0, [], rfl, Nat.zero_le _, rfl, fun b hb => by simp [Value.ownBlock] at hb, ⟨rfl, .inl ⟨rfl, rfl⟩⟩, ?_, Below.refl _ _⟩
    intro W _ _
    cases f <;> rfl
  case round =>
    obtain ⟨k, g, a, cap, cs, rfl, hk, rfl, hg, hown, hst, hbw⟩ := hrel
    have hsw := hbw.size
    have HOWN := Lib.hid hown
    have HST := Lib.hid hst
    have HG := Lib.hid hg
    have hgl := Lib.hid (fun b (hb : (Value.slice a k cap).ownBlock = some b) => hown.lt b hb)
    clear hown hst hg
    by_cases hlt : k < f.len
    · have dk : decide (k < f.len) = true := by simpa using hlt
      obtain ⟨b, o, cap0, hs, hcap, -, hb, hrow⟩ := lies_row HL.out (by omega)
      simp only [Value.slice.injEq] at hs
      obtain ⟨rfl, -, rfl⟩ := hs
      obtain ⟨hd, ks, e, ⟨q0, q1, ⟨va, q2, ha'⟩, q3, q4, q5⟩, vk, q6, hlk⟩ := row_get hrow hlt
      obtain ⟨aa, ca, rfl⟩ := attrs_form ha'
      obtain ⟨ak, ck, rfl⟩ := lies_form hlk
      have r0 := (hbw.cell (p := ⟨b, o + k * 7, none⟩) hb).trans q0
      have r1 := (hbw.cell (p := ⟨b, o + k * 7 + 1, none⟩) hb).trans q1
      have r2 := (hbw.cell (p := ⟨b, o + k * 7 + 2, none⟩) hb).trans q2
      have r3 := (hbw.cell (p := ⟨b, o + k * 7 + 3, none⟩) hb).trans q3
      have r4 := (hbw.cell (p := ⟨b, o + k * 7 + 4, none⟩) hb).trans q4
      have r5 := (hbw.cell (p := ⟨b, o + k * 7 + 5, none⟩) hb).trans q5
      have r6 := (hbw.cell (p := ⟨b, o + k * 7 + 6, none⟩) hb).trans q6
      have hbr : b < wr.heap.size := by omega
      have HA := Lib.hid (fun W (hW : Below w.heap.size w W) => attrsOf_any _ _ W (attrs_below ha' hW))
      have HC := Lib.hid (fun W (hW : Below w.heap.size w W) => HT'.out hd ks ⟨k, hlt, e⟩ _ W (lies_below hlk hW))
      have HE := Lib.hid e
      clear q0 q1 q2 q3 q4 q5 q6 ha' hlk e hrow HT'
      go_upto_region 6 with fail
      have k1 := World.alloc_heap_new wr (.cells #[.int .i64 hd.k, .string ⟨hd.l.toArray⟩, .slice aa hd.ats.length ca, .int .i64 hd.n, .int .i64 hd.d, .string ⟨hd.x.toArray⟩, .slice ak ks.len ck] 43)
      have BW1 : Below wr.heap.size wr (wr.alloc (.cells #[.int .i64 hd.k, .string ⟨hd.l.toArray⟩, .slice aa hd.ats.length ca, .int .i64 hd.n, .int .i64 hd.d, .string ⟨hd.x.toArray⟩, .slice ak ks.len ck] 43)) := (Below.refl _ _).alloc (Nat.le_refl _) _
      have hs1 : (wr.alloc (.cells #[.int .i64 hd.k, .string ⟨hd.l.toArray⟩, .slice aa hd.ats.length ca, .int .i64 hd.n, .int .i64 hd.d, .string ⟨hd.x.toArray⟩, .slice ak ks.len ck] 43)).heap.size = wr.heap.size + 1 := by simp
      generalize wr.alloc (.cells #[.int .i64 hd.k, .string ⟨hd.l.toArray⟩, .slice aa hd.ats.length ca, .int .i64 hd.n, .int .i64 hd.d, .string ⟨hd.x.toArray⟩, .slice ak ks.len ck] 43) = X1 at *
      have BX1 := hbw.trans (BW1.mono hsw)
      have KT1 := Lib.hid k1
      have d2 : X1.cell? ⟨wr.heap.size, 2, none⟩ = some (.slice aa hd.ats.length ca) := cell_of_block k1 rfl
      have HS1 := Lib.hid hs1
      have hz1' : wr.heap.size < X1.heap.size := by omega
      clear k1 r0 r1 r2 r3 r4 r5 r6 hs1
      go_wp2_with fail
      refine (HA.out X1 BX1).mono ?_
      rintro e X2 ⟨a2, c2, rfl, hA2, hb2⟩
      have BW2 := BW1.trans (hb2.mono BW1.size)
      have k2 := (hb2.block _ hz1').trans KT1.out
      have hz2' : wr.heap.size < X2.heap.size := Nat.lt_of_lt_of_le hz1' hb2.size
      have f2 := frozen_of_block (o := 2) k2
      have d2' : X2.cell? ⟨wr.heap.size, 2, none⟩ = some (.slice aa hd.ats.length ca) := cell_of_block k2 rfl
      have KT2 := Lib.hid k2
      have HA2 := Lib.hid (attrsF_mono (B' := wr.heap.size + 1) (by rw [HS1.out]; omega) hA2)
      clear d2 k2 hb2 hA2
      go_upto_region 7 with fail
      have k3 : (X2.setCell ⟨wr.heap.size, 2, none⟩ (.slice a2 hd.ats.length c2)).heap[wr.heap.size]? = some (.cells #[.int .i64 hd.k, .string ⟨hd.l.toArray⟩, .slice a2 hd.ats.length c2, .int .i64 hd.n, .int .i64 hd.d, .string ⟨hd.x.toArray⟩, .slice ak ks.len ck] 43) := set_block KT2.out
      have BW3 : Below wr.heap.size wr (X2.setCell ⟨wr.heap.size, 2, none⟩ (.slice a2 hd.ats.length c2)) := BW2.setCell (Nat.le_refl _) _
      have hz3' : wr.heap.size < (X2.setCell ⟨wr.heap.size, 2, none⟩ (.slice a2 hd.ats.length c2)).heap.size := by rw [set_size']; exact hz2'
      have HA3 := Lib.hid (attrsF_keeps HA2.out (Keeps.setCell (B := wr.heap.size + 1) X2 (b := wr.heap.size) (by omega) 2 (.slice a2 hd.ats.length c2)))
      generalize X2.setCell ⟨wr.heap.size, 2, none⟩ (.slice a2 hd.ats.length c2) = X3 at *
      have BX3 := hbw.trans (BW3.mono hsw)
      have d6 : X3.cell? ⟨wr.heap.size, 6, none⟩ = some (.slice ak ks.len ck) := cell_of_block k3 rfl
      have KT3 := Lib.hid k3
      clear k3 d2' f2 KT1 KT2 HA2 BW1 BW2 BX1
      go_wp2_with fail
      refine (HC.out X3 BX3).mono ?_
      rintro e X4 ⟨a4, c4, rfl, hL4, hb4⟩
      have BW4 := BW3.trans (hb4.mono BW3.size)
      have k4 := (hb4.block _ hz3').trans KT3.out
      have hz4' : wr.heap.size < X4.heap.size := Nat.lt_of_lt_of_le hz3' hb4.size
      have f6 := frozen_of_block (o := 6) k4
      have d6' : X4.cell? ⟨wr.heap.size, 6, none⟩ = some (.slice ak ks.len ck) := cell_of_block k4 rfl
      have KT4 := Lib.hid k4
      have HA4 := Lib.hid (attrsF_keeps HA3.out (Keeps.of_below (B := wr.heap.size + 1) hb4))
      have HL4 := Lib.hid (liesF_mono (B' := wr.heap.size + 1) (by omega) hL4)
      clear d6 k4 hb4 hL4
      go_upto_region 8 with fail
      have k5 : (X4.setCell ⟨wr.heap.size, 6, none⟩ (.slice a4 ks.len c4)).heap[wr.heap.size]? = some (.cells #[.int .i64 hd.k, .string ⟨hd.l.toArray⟩, .slice a2 hd.ats.length c2, .int .i64 hd.n, .int .i64 hd.d, .string ⟨hd.x.toArray⟩, .slice a4 ks.len c4] 43) := set_block KT4.out
      have BW5 : Below wr.heap.size wr (X4.setCell ⟨wr.heap.size, 6, none⟩ (.slice a4 ks.len c4)) := BW4.setCell (Nat.le_refl _) _
      have hz5' : wr.heap.size < (X4.setCell ⟨wr.heap.size, 6, none⟩ (.slice a4 ks.len c4)).heap.size := by rw [set_size']; exact hz4'
      have HK5 := Keeps.setCell (B := wr.heap.size + 1) X4 (b := wr.heap.size) (by omega) 6 (.slice a4 ks.len c4)
      have HA5 := Lib.hid (attrsF_keeps HA4.out HK5)
      have HL5 := Lib.hid (liesF_keeps HL4.out HK5)
      clear HK5
      generalize X4.setCell ⟨wr.heap.size, 6, none⟩ (.slice a4 ks.len c4) = X5 at *
      have BX5 := hbw.trans (BW5.mono hsw)
      have d0 : X5.cell? ⟨wr.heap.size, 0, none⟩ = some (.int .i64 hd.k) := cell_of_block k5 rfl
      have d1 : X5.cell? ⟨wr.heap.size, 1, none⟩ = some (.string ⟨hd.l.toArray⟩) := cell_of_block k5 rfl
      have d2 : X5.cell? ⟨wr.heap.size, 2, none⟩ = some (.slice a2 hd.ats.length c2) := cell_of_block k5 rfl
      have d3 : X5.cell? ⟨wr.heap.size, 3, none⟩ = some (.int .i64 hd.n) := cell_of_block k5 rfl
      have d4 : X5.cell? ⟨wr.heap.size, 4, none⟩ = some (.int .i64 hd.d) := cell_of_block k5 rfl
      have d5 : X5.cell? ⟨wr.heap.size, 5, none⟩ = some (.string ⟨hd.x.toArray⟩) := cell_of_block k5 rfl
      have d6 : X5.cell? ⟨wr.heap.size, 6, none⟩ = some (.slice a4 ks.len c4) := cell_of_block k5 rfl
      have O5 := Lib.hid (owns_belowV HOWN.out BW5)
      have hnew := World.alloc_heap_new X5 (.cells #[.int .i64 hd.k, .string ⟨hd.l.toArray⟩, .slice a2 hd.ats.length c2, .int .i64 hd.n, .int .i64 hd.d, .string ⟨hd.x.toArray⟩, .slice a4 ks.len c4] 43)
      have hbx5 := BX5.size
      clear k5 d6' f6 KT3 KT4 HA3 HA4 HL4 BW3 BW4 BX3
      go_wp2_with (at_builtin; refine wpList_append_own_at _ rfl _ _ 28 rfl w.heap.size 43 i0 _ 7 104 Tryz.underlying28 hi hz0 hz1 hz2 rfl (by decide) _ k cs rfl (O5.out.alloc _) ⟨X5.heap.size, 0, none⟩ 1 1 (treeCells hd a2 c2 a4 ks.len c4) rfl rfl ?c1 ?c2 ?c3 ?c4 ?c5 ?stop)
      case c1 =>
        intro j u hj
        rw [Go.WideShapes.add_plain]
        exact cell_of_block hnew (by simpa [treeCells] using hj)
      case c2 => intro u hu; simp [treeCells] at hu; rcases hu with rfl | rfl | rfl | rfl | rfl | rfl | rfl <;> rfl
      case c3 => unfold maxLen; omega
      case c4 => omega
      case c5 => simp; omega
      case stop =>
        intro v' w6 hown' hgrow _ hat
        obtain ⟨g', cap', rfl⟩ : ∃ g cap, v' = .slice (some ⟨g, 0, none⟩) (k + 1) cap := by
          rcases hown'.2 with ⟨_, h0⟩ | ⟨g, cap, cur, hv, _⟩
          · omega
          · exact ⟨g, cap, hv⟩
        have hat2 : g' = g ∨ g' = X5.heap.size + 1 := by
          rcases hat with h | h
          · exact .inl (HG.out g' (h.symm.trans rfl))
          · exact .inr (by simpa [Value.ownBlock] using h)
        have hs6 := hgrow.size
        simp at hs6
        have hw5 := BW5.size
        have hcell : ∀ W : World, w6.heap.size ≤ W.heap.size → (∀ k o, w.heap.size ≤ k → k < w6.heap.size → k ≠ g' → W.cell? ⟨k, o, none⟩ = w6.cell? ⟨k, o, none⟩) → ∀ k' o, w.heap.size ≤ k' → k' < X5.heap.size → (∀ j, (Value.slice a k cap).ownBlock = some j → k' ≠ j) → W.cell? ⟨k', o, none⟩ = X5.cell? ⟨k', o, none⟩ := by
          intro W hW hc k' o' h1 h2 h3
          refine (hc k' o' h1 (by omega) ?_).trans (World.cell?_of_block ?_)
          · rcases hat with h | h
            · exact h3 g' (h.symm.trans rfl)
            · have : g' = X5.heap.size + 1 := by simpa [Value.ownBlock] using h
              omega
          · rw [hgrow.block k' (by simp; omega) (by intro h; exact h3 k' h.symm rfl), Below.heap_alloc _ _ k' h2]
        have S6 := Lib.hid (show Stab w.heap.size g' w6 (f.take (k + 1)) (cs ++ treeCells hd a2 c2 a4 ks.len c4) by
          rw [take_snoc HE.out]
          intro W hW hc
          have hcc := hcell W hW hc
          have hk : Keeps (wr.heap.size + 1) X5 W := ⟨by omega, fun k' o' h1 h2 => hcc k' o' (by omega) h2 (fun j hj => by have := (hgl.out j hj).2; omega)⟩
          exact rowL_snoc (attrsF_mono (by omega) (attrsF_keeps HA5.out hk)) (liesF_mono (by omega) (liesF_keeps HL5.out hk)) (f.take k) cs (HST.out W (by omega) fun k' o' h1 h2 h3 => (hcc k' o' h1 (by omega) (fun j hj => by rw [HG.out j hj]; exact h3)).trans ((bcell BW5).1 k' o' h2)))
        have O6 := Lib.hid hown'
        have B6 := Lib.hid ((BX5.alloc hbx5 (.cells #[.int .i64 hd.k, .string ⟨hd.l.toArray⟩, .slice a2 hd.ats.length c2, .int .i64 hd.n, .int .i64 hd.d, .string ⟨hd.x.toArray⟩, .slice a4 ks.len c4] 43)).grown hgrow (by simp; omega) (fun k hk => (hgl.out k hk).1))
        clear hown' hgrow hat hat2 hcell hnew d0 d1 d2 d3 d4 d5 d6
        go_wp2_with fail
        go_roundw
        case rel => exact ⟨k + 1, g', some ⟨g', 0, none⟩, cap', _, by go_num, by omega, rfl, fun b hb => by simpa [Value.ownBlock] using hb.symm, O6.out, S6.out, B6.out⟩
        case measure => simp [intOf]; omega
    · have dk : decide (k < f.len) = false := by simpa using hlt
      obtain rfl : k = f.len := by omega
      have HF := Lib.hid (show LiesF w.heap.size wr (.slice a f.len cap) f by
        have hrow := HST.out wr (Nat.le_refl _) (fun _ _ _ _ _ => rfl)
        rw [take_all] at hrow
        rcases HOWN.out.2 with ⟨h3, h4⟩ | ⟨g1, cap1, cur, h3, hb1, hg1, hn1, hc1, _, _⟩
        · exact .inl ⟨none, 0, by simpa [h4] using h3, Fo.len_nil h4⟩
        · have hgl2 := (hgl.out g1 (by rw [h3]; rfl)).2
          have hcs := HOWN.out.cells (g := g1) (by rw [h3]; rfl)
          simp only [Value.slice.injEq] at h3
          obtain ⟨rfl, -, rfl⟩ := h3
          exact .inr ⟨g1, 0, cap, rfl, hn1, by omega, hb1, hgl2, rowL_row f cs 0 hrow fun j u hj => by
            have := hcs j u hj
            rw [Go.WideShapes.add_plain] at this
            simpa using this⟩)
      go_wp2_with fail
      go_ret
      exact ⟨a, cap, rfl, HF.out, hbw⟩

/-- CopyOf gives the forest in memory of its own. -/
theorem copyOf_any : ∀ (N : Nat) (f : Fo), f.size ≤ N → f.size ≤ 1000000 → ∀ (v : Value) (w : World), Lies w v f → Calls Tryz.prog 95 #[v] w (CloneRes w f) := by
  intro N
  induction N with
  | zero =>
    intro f hf h1 v w hl
    exact copyOf_of f v w hl (by have := Fo.len_le_size f; omega) (fun h ks ⟨j, hj, _⟩ => by have := Fo.len_le_size f; omega)
  | succ N ih =>
    intro f hf h1 v w hl
    refine copyOf_of f v w hl (by have := Fo.len_le_size f; omega) (fun hd ks ⟨j, hj, e⟩ v w hk => ?_)
    have := kid_size e
    exact ih ks (by omega) (by omega) v w hk
end Go.Proofs.YtcgedpfolloinaaGreat

namespace Go.Proofs.YtcgedpfolloinaaGreat
open Go.RowKit

set_option maxRecDepth 100000 in
set_option maxHeartbeats 2000000 in
theorem grow_any (n : Nat) (w : World) (hn : n ≤ 1000000) :
    Calls Tryz.prog 149 #[.slice none 0 0, .int .i64 n] w fun e w' => ∃ a c, e = .returned (.slice a 0 c) ∧ w'.ownsRow w.heap.size 43 7 (.slice a 0 c) 0 [] ∧ Below w.heap.size w w' := by
  obtain ⟨i0, hi, hz0, hz1, hz2⟩ := info_parts info_tree
  by_cases h0 : n = 0
  · subst h0
    go_enter Tryz.func149, Tryz.ntmps149
    go_wp2_with fail
    go_ret
    exact ⟨_, _, rfl, World.ownsRow_nil _ _ _ _, Below.refl _ _⟩
  · have hpos : ((0 : Int) < (n : Int)) := by omega
    have d1 : decide ((0 : Int) < (n : Int)) = true := by simp; omega
    have d2 : decide (0 < n) = true := by simp; omega
    have hnc : n ≤ grownCap w n 0 43 := grownCap_ge w n 0 43
    have hcm : grownCap w n 0 43 ≤ maxLen := grownCap_le_maxLen w n 0 43 (by unfold maxLen; omega)
    have hrz := fun ty => Lib.run_append_nil_zeros (P := Tryz.prog) w 28 3 ty 43 i0 _ .i64 .i64 Tryz.underlying28 Tryz.underlying3 hi hz0 n (by omega) (by rw [hz1]; decide) (by omega) (by rw [hz2]; omega)
    obtain ⟨G, hG⟩ : ∃ G, grownCap w n 0 43 = G := ⟨_, rfl⟩
    rw [hG] at hnc hcm
    simp only [hG] at hrz
    have HRZ := Lib.hid hrz
    have hG63 : G ≤ 9223372036854775807 := by unfold maxLen at hcm; omega
    clear hrz hG
    go_enter Tryz.func149, Tryz.ntmps149
    go_wp2_with (at_builtin; refine Lib.wpList_append_run _ rfl _ _ _ _ rfl _ _ rfl rfl _ _ (HRZ.out _) ?_)
    go_ret
    refine ⟨_, _, rfl, ⟨rfl, .inr ⟨w.heap.size, G, _, rfl, Nat.le_refl _, World.alloc_heap_new w.drew _, Nat.zero_le _, hcm, ?_, by simp⟩⟩, (Below.refl _ _).drew.alloc (Nat.le_refl _) _⟩
    rw [Array.size_append, size_zeroCells, size_zeroCells]
    show n * 7 + (G - n) * 7 = G * 7
    omega
end Go.Proofs.YtcgedpfolloinaaGreat

namespace Go.Proofs.YtcgedpfolloinaaGreat
open Go.RowKit

/-- all trees of some forests, one behind the other. -/
def catF : List Fo → Fo
  | [] => .nil
  | g :: r => g.app (catF r)
theorem app_assoc : ∀ a b c : Fo, (a.app b).app c = a.app (b.app c)
  | .nil, _, _ => rfl
  | .cons h ks r, b, c => by simp only [Fo.app]; rw [app_assoc r b c]
theorem catF_snoc (g : Fo) : ∀ gs : List Fo, catF (gs ++ [g]) = (catF gs).app g
  | [] => by simp [catF, Fo.app, app_nil]
  | x :: r => by simp only [List.cons_append, catF]; rw [catF_snoc g r, app_assoc]
theorem app_length : ∀ f g : Fo, (f.app g).len = f.len + g.len
  | .nil, g => by simp [Fo.app, Fo.len]
  | .cons h ks r, g => by simp only [Fo.app, Fo.len]; rw [app_length r g]; omega
theorem take_getD {gs : List Fo} {k : Nat} (hk : k < gs.length) : gs.take (k + 1) = gs.take k ++ [gs.getD k .nil] := by
  rw [List.take_add_one, List.getD_eq_getElem?_getD, List.getElem?_eq_getElem hk]; rfl
theorem catF_take {gs : List Fo} {k : Nat} (hk : k < gs.length) : catF (gs.take (k + 1)) = (catF (gs.take k)).app (gs.getD k .nil) := by
  rw [take_getD hk, catF_snoc]
theorem catF_le : ∀ (gs : List Fo) (k : Nat), (catF (gs.take k)).len ≤ (catF gs).len
  | [], k => by simp
  | g :: r, 0 => by simp [catF, Fo.len]
  | g :: r, k + 1 => by
    simp only [List.take_succ_cons, catF, app_length]
    have := catF_le r k
    omega
theorem rowL_app {B : Nat} {W : World} : ∀ (f g : Fo) (cs ds : List Value), RowL B W f cs → RowL B W g ds → RowL B W (f.app g) (cs ++ ds)
  | .nil, g, cs, ds, h, k => by rw [show cs = [] from h]; exact k
  | .cons h ks r, g, cs, ds, H, k => by
    obtain ⟨aa, ca, ak, ck, rest, rfl, ha, hk, hr⟩ := H
    exact ⟨aa, ca, ak, ck, rest ++ ds, by simp, ha, hk, rowL_app r g rest ds hr k⟩
theorem rowL_keeps {B : Nat} {W W' : World} (k : Keeps B W W') : ∀ (f : Fo) (cs : List Value), RowL B W f cs → RowL B W' f cs
  | .nil, _, h => h
  | .cons h ks r, cs, H => by
    obtain ⟨aa, ca, ak, ck, rest, e, ha, hk, hr⟩ := H
    exact ⟨aa, ca, ak, ck, rest, e, attrsF_keeps ha k, liesF_keeps hk k, rowL_keeps k r rest hr⟩
theorem rowF_cells {B : Nat} {W : World} {b : Nat} : ∀ (f : Fo) (o : Nat), RowF B W f b o → ∃ cs, RowL B W f cs ∧ cs.length = f.len * 7 ∧ (∀ u ∈ cs, u.oneCell' = true) ∧ ∀ j u, cs[j]? = some u → W.cell? ⟨b, o + j, none⟩ = some u
  | .nil, o, _ => ⟨[], rfl, rfl, fun u h => (by cases h), fun j u h => (by simp at h)⟩
  | .cons h ks r, o, H => by
    obtain ⟨⟨h0, h1, ⟨va, h2, ha⟩, h3, h4, h5⟩, ⟨v, h6, hk⟩, hr⟩ := H
    obtain ⟨cs, c1, c2, c4, c3⟩ := rowF_cells r (o + 7) hr
    obtain ⟨aa, ca, rfl⟩ := attrsF_form ha
    have hkl : LiesF B W v ks := hk
    obtain ⟨ak, ck, rfl⟩ := liesF_form hkl
    refine ⟨treeCells h aa ca ak ks.len ck ++ cs, ⟨aa, ca, ak, ck, cs, rfl, ha, hkl, c1⟩, by simp [treeCells, Fo.len, c2]; omega, ?_, ?_⟩
    · intro u hu
      rcases List.mem_append.1 hu with hu | hu
      · simp [treeCells] at hu; rcases hu with rfl | rfl | rfl | rfl | rfl | rfl | rfl <;> rfl
      · exact c4 u hu
    · intro j u hj
      match j, hj with
      | 0, hj => simp [treeCells] at hj; subst hj; exact h0
      | 1, hj => simp [treeCells] at hj; subst hj; exact h1
      | 2, hj => simp [treeCells] at hj; subst hj; exact h2
      | 3, hj => simp [treeCells] at hj; subst hj; exact h3
      | 4, hj => simp [treeCells] at hj; subst hj; exact h4
      | 5, hj => simp [treeCells] at hj; subst hj; exact h5
      | 6, hj => simp [treeCells] at hj; subst hj; exact h6
      | j + 7, hj =>
        rw [List.getElem?_append_right (by simp [treeCells])] at hj
        have := c3 j u (by simpa [treeCells] using hj)
        rw [show o + (j + 7) = o + 7 + j by omega]
        exact this
theorem append_none {P : Program} {w : World} (t ty e : TypeId) (i : TypeInfo) (size : Nat) (ht : P.underlying t = some (.slice e)) (hi : P.info? e = some i) {base : Nat}
    (v : Value) (n c : Nat) (xs : List Value) (hown : w.ownsRow base e size v n xs) :
    (Builtin.append_ #[t, t] ty #[v, .slice none 0 c]).run P w = .ok v w := by
  rcases hown.2 with ⟨rfl, rfl⟩ | ⟨g, cap, cur, rfl, _, _, hnc, _⟩
  · simp [Builtin.append_, run_underlying ht, sizeOf, typeInfo, hi, Builtin.lenOf, Builtin.firstCells]
  · simp [Builtin.append_, run_underlying ht, sizeOf, typeInfo, hi, Builtin.lenOf, Builtin.firstCells, hnc, storeCells]

/-- some slices of trees, in a block. -/
def SlicesAt (B : Nat) (w : World) (b : Nat) (gs : List Fo) : Prop :=
  b < w.heap.size ∧ ∀ k, k < gs.length → ∃ a cap, w.cell? ⟨b, k, none⟩ = some (.slice a (gs.getD k .nil).len cap) ∧ LiesF B w (.slice a (gs.getD k .nil).len cap) (gs.getD k .nil)

set_option maxRecDepth 100000 in
set_option maxHeartbeats 8000000 in
theorem concatT_any (gs : List Fo) (b B : Nat) (w : World) (hB : B ≤ w.heap.size) (hs : SlicesAt B w b gs) (hn : gs.length ≤ 100) (hT : (catF gs).len ≤ 1000000) :
    Calls Tryz.prog 110 #[.slice (some ⟨b, 0, none⟩) gs.length gs.length] w fun e w' => ∃ a cap, e = .returned (.slice a (catF gs).len cap) ∧ LiesF B w' (.slice a (catF gs).len cap) (catF gs) ∧ Below w.heap.size w w' := by
  obtain ⟨i0, hi, hz0, hz1, hz2⟩ := info_parts info_tree
  have HS := Lib.hid hs.2
  have hb := hs.1
  have HSUC := Lib.hid (fun k (hk : k < gs.length) => (congrArg Fo.len (catF_take hk)).trans (app_length _ _))
  have HLE := Lib.hid (fun k => catF_le gs k)
  have HCAT := Lib.hid (fun k (hk : k < gs.length) => catF_take hk)
  have HALL := Lib.hid (show catF (gs.take gs.length) = catF gs by rw [List.take_length])
  have HGR := Lib.hid (fun n (h : n ≤ 1000000) => grow_any n w h)
  clear hs
  go_enter Tryz.func110, Tryz.ntmps110
  go_wp2_with fail
  go_loop [3, 11] (fun s i => ∃ k : Nat, i = .int .i64 k ∧ k ≤ gs.length ∧ s = .int .i64 (catF (gs.take k)).len) (fun _ i => gs.length - (intOf i).toNat)
  case atStart => exact ⟨0, rfl, Nat.zero_le _, rfl⟩
  case round =>
    obtain ⟨k, rfl, hk, rfl⟩ := hrel
    by_cases hlt : k < gs.length
    · obtain ⟨a, cap, hc, -⟩ := HS.out k hlt
      have e1 := HSUC.out k hlt
      have e2 := HLE.out (k + 1)
      have hlen : (gs.getD k .nil).len ≤ 1000000 := by omega
      have hlk : (catF (gs.take k)).len ≤ 1000000 := by omega
      have HE := Lib.hid e1
      generalize (gs.getD k .nil).len = m at *
      clear e1 e2
      go_wp2_with fail
      go_round
      case rel => exact ⟨k + 1, by go_num, by omega, by rw [HE.out]; simp⟩
      case measure => simp [intOf]; omega
    · obtain rfl : k = gs.length := by omega
      rw [HALL.out]
      go_wp2_with fail
      refine (HGR.out _ hT).mono ?_
      rintro e w1 ⟨a0, c0, rfl, hown0, hb1⟩
      have HOWN0 := Lib.hid hown0
      have hs1 := hb1.size
      have HB1 := Lib.hid hb1
      clear hown0 hb1
      go_wp2_with fail
      go_loopw [6, 27] (fun v i wr => ∃ (k : Nat) (a : Option Addr) (c : Nat) (cs : List Value), i = .int .i64 k ∧ k ≤ gs.length ∧ v = .slice a (catF (gs.take k)).len c ∧ wr.ownsRow w.heap.size 43 7 (.slice a (catF (gs.take k)).len c) (catF (gs.take k)).len cs ∧ RowL B w (catF (gs.take k)) cs ∧ Below w.heap.size w wr) (fun _ i _ => gs.length - (intOf i).toNat)
      case atStart => exact ⟨0, a0, c0, [], rfl, Nat.zero_le _, rfl, HOWN0.out, rfl, HB1.out⟩
      case round =>
        obtain ⟨k, a, c, cs, rfl, hk, rfl, hown, hrow, hbw⟩ := hrel
        have OWN := Lib.hid hown
        have ROW := Lib.hid hrow
        have BW := Lib.hid hbw
        have hsr := hbw.size
        clear hown hrow
        by_cases hlt : k < gs.length
        · obtain ⟨ax, cx, hc, hx⟩ := HS.out k hlt
          have HE := Lib.hid (HSUC.out k hlt)
          have HC := Lib.hid (HCAT.out k hlt)
          have e2 := HLE.out (k + 1)
          have hle2 : (catF (gs.take k)).len + (gs.getD k .nil).len ≤ 1000000 := by rw [← HE.out]; omega
          have hcr := (hbw.cell (p := ⟨b, k, none⟩) hb).trans hc
          have hbr : b < wr.heap.size := by omega
          clear hc hbw e2
          generalize catF (gs.take k) = F at *
          generalize gs.getD k .nil = g at *
          rcases hx with ⟨ay, cy, hv, rfl⟩ | ⟨bx, ox, cpx, hv, h1, h2, h3, h4, hrf⟩
          · simp only [Value.slice.injEq] at hv
            obtain ⟨rfl, -, rfl⟩ := hv
            have HE2 := Lib.hid (show (catF (gs.take (k + 1))).len = F.len by rw [HE.out]; simp [Fo.len])
            have HC2 := Lib.hid (show catF (gs.take (k + 1)) = F by rw [HC.out, app_nil])
            cases ax with
            | none =>
              go_wp2_with (at_builtin; refine Lib.wpList_append_run _ rfl _ _ _ _ rfl _ _ rfl rfl _ _ (append_none 28 _ 43 i0 7 Tryz.underlying28 hi _ _ _ _ OWN.out) ?_)
              go_roundw
              case rel => exact ⟨k + 1, a, c, cs, by go_num, by omega, by rw [HE2.out], by rw [HE2.out]; exact OWN.out, by rw [HC2.out]; exact ROW.out, BW.out⟩
              case measure => simp [intOf]; omega
            | some ad =>
              go_wp2_with (at_builtin; refine wpList_append_own _ rfl _ _ 28 rfl w.heap.size 43 i0 _ 7 104 Tryz.underlying28 hi hz0 hz1 hz2 rfl (by decide) (.slice a F.len c) F.len cs rfl OWN.out ad 0 cx [] rfl rfl ?c1 ?c2 ?c3 ?c4 ?c5 ?stop)
              case c1 => intro j u hj; simp at hj
              case c2 => intro u hu; cases hu
              case c3 => unfold maxLen; omega
              case c4 => omega
              case c5 => omega
              case stop =>
                intro v' w5 hown' hgrow _
                have hform : ∃ a' c', v' = .slice a' F.len c' := by
                  rcases hown'.2 with ⟨e, h0⟩ | ⟨g', c', cur, e, _⟩
                  · exact ⟨none, 0, by rw [e, show F.len = 0 by omega]⟩
                  · exact ⟨_, _, e⟩
                obtain ⟨a', c', rfl⟩ := hform
                have B5 := Lib.hid (BW.out.grown hgrow (by omega) (fun j hj => (OWN.out.lt j hj).1))
                have O5 := Lib.hid (show w5.ownsRow w.heap.size 43 7 (.slice a' F.len c') F.len cs by simpa using hown')
                clear hown' hgrow
                go_wp2_with fail
                go_roundw
                case rel => exact ⟨k + 1, a', c', cs, by go_num, by omega, by rw [HE2.out], by rw [HE2.out]; exact O5.out, by rw [HC2.out]; exact ROW.out, B5.out⟩
                case measure => simp [intOf]; omega
          · simp only [Value.slice.injEq] at hv
            obtain ⟨rfl, -, rfl⟩ := hv
            obtain ⟨ds, hd1, hd2, hd4, hd3⟩ := rowF_cells g ox hrf
            have HD := Lib.hid (show ∀ j u, ds[j]? = some u → wr.cell? ((⟨bx, ox, none⟩ : Addr).add j) = some u from fun j u hj => by
              rw [Go.WideShapes.add_plain]
              exact (BW.out.cell (p := ⟨bx, ox + j, none⟩) h4).trans (hd3 j u hj))
            have HR2 := Lib.hid (rowL_app F g cs ds ROW.out hd1)
            clear hd3 hrf
            go_wp2_with (at_builtin; refine wpList_append_own _ rfl _ _ 28 rfl w.heap.size 43 i0 _ 7 104 Tryz.underlying28 hi hz0 hz1 hz2 rfl (by decide) (.slice a F.len c) F.len cs rfl OWN.out ⟨bx, ox, none⟩ g.len cx ds rfl hd2 ?c1 ?c2 ?c3 ?c4 ?c5 ?stop)
            case c1 => exact HD.out
            case c2 => exact hd4
            case c3 => unfold maxLen; omega
            case c4 => omega
            case c5 => omega
            case stop =>
              intro v' w5 hown' hgrow _
              have hform : ∃ a' c', v' = .slice a' (F.len + g.len) c' := by
                rcases hown'.2 with ⟨e, h0⟩ | ⟨g', c', cur, e, _⟩
                · exact ⟨none, 0, by rw [e, h0]⟩
                · exact ⟨_, _, e⟩
              obtain ⟨a', c', rfl⟩ := hform
              have B5 := Lib.hid (BW.out.grown hgrow (by omega) (fun j hj => (OWN.out.lt j hj).1))
              have O5 := Lib.hid hown'
              clear hown' hgrow
              go_wp2_with fail
              go_roundw
              case rel => exact ⟨k + 1, a', c', cs ++ ds, by go_num, by omega, by rw [HE.out], by rw [HE.out]; exact O5.out, by rw [HC.out]; exact HR2.out, B5.out⟩
              case measure => simp [intOf]; omega
        · obtain rfl : k = gs.length := by omega
          have HF := Lib.hid (show LiesF B wr (.slice a (catF gs).len c) (catF gs) by
            have hr := rowL_keeps (Keeps.of_below BW.out : Keeps B w wr) _ _ ROW.out
            have ho := OWN.out
            rw [HALL.out] at hr ho
            rcases ho.2 with ⟨e, h0⟩ | ⟨g', c', cur, e, hb', hg', hn', hc', _, _⟩
            · cases hcf : catF gs with
              | nil => exact .inl ⟨_, _, rfl, rfl⟩
              | cons h ks r => rw [hcf] at h0; simp [Fo.len] at h0
            · simp only [Value.slice.injEq] at e
              obtain ⟨rfl, -, rfl⟩ := e
              refine .inr ⟨g', 0, c, rfl, hn', by omega, by omega, (Array.getElem?_eq_some_iff.1 hg').1, rowL_row _ _ 0 hr fun j u hj => ?_⟩
              have := ho.cells (g := g') rfl j u hj
              rw [Go.WideShapes.add_plain] at this
              simpa using this)
          clear hbw
          rw [HALL.out]
          go_wp2_with fail
          go_ret
          exact ⟨_, _, rfl, HF.out, BW.out⟩
end Go.Proofs.YtcgedpfolloinaaGreat

namespace Go.Proofs.YtcgedpfolloinaaGreat
open Go.RowKit

theorem ints_tail {w : World} {b off cap : Nat} {i : Int} {r : List Int} (h : IntsLie w (.slice (some ⟨b, off, none⟩) (r.length + 1) cap) (i :: r)) : IntsLie w (.slice (some ⟨b, off + 1, none⟩) r.length (cap - 1)) r := by
  rcases h with ⟨a, c, e, h⟩ | ⟨b', off', cap', e, h1, h2, h3⟩
  · cases h
  · simp only [List.length_cons, Value.slice.injEq, Option.some.injEq, Addr.mk.injEq, and_true, true_and] at e
    obtain ⟨⟨rfl, rfl⟩, rfl⟩ := e
    simp only [List.length_cons] at h1 h3
    refine .inr ⟨b, off + 1, cap - 1, rfl, by omega, h2, fun k hk => ?_⟩
    have := h3 (k + 1) (by omega)
    rw [show off + 1 + k = off + (k + 1) by omega, this]; rfl

def PlaceVal (w : World) (f : Fo) (p : List Int) (V : Value) : Prop :=
  ∃ h ks aa ca ak ck, V = .tuple #[aggOf h aa ca ak ks.len ck, .bool (placeF f p).isSome] ∧ AttrsLie w (.slice aa h.ats.length ca) h.ats ∧ Lies w (.slice ak ks.len ck) ks ∧
    (placeF f p = some (h, ks) ∨ (placeF f p = none ∧ h = zeroHd ∧ ks = .nil ∧ aa = none ∧ ca = 0 ∧ ak = none ∧ ck = 0))
theorem PlaceVal.none {w : World} {f : Fo} {p : List Int} (h : placeF f p = none) : PlaceVal w f p (.tuple #[aggOf zeroHd none 0 none 0 0, .bool false]) :=
  ⟨zeroHd, .nil, _, _, _, _, by rw [h]; rfl, .inl ⟨_, _, rfl, rfl⟩, .inl ⟨_, _, rfl, rfl⟩, .inr ⟨h, rfl, rfl, rfl, rfl, rfl, rfl⟩⟩

set_option maxRecDepth 100000 in
set_option maxHeartbeats 4000000 in
theorem place_nil (v : Value) (a : Option Addr) (c : Nat) (w1 : World) :
    Calls Tryz.prog 94 #[v, .slice a 0 c] w1 fun e w' => e = .returned (.tuple #[aggOf zeroHd none 0 none 0 0, .bool false]) ∧ Below w1.heap.size w1 w' := by
  have kb := World.alloc_heap_new w1 (.cells #[.int .i64 0, .string ⟨#[]⟩, .slice none 0 0, .int .i64 0, .int .i64 0, .string ⟨#[]⟩, .slice none 0 0] 43)
  have B1 : Below w1.heap.size w1 (w1.alloc (.cells #[.int .i64 0, .string ⟨#[]⟩, .slice none 0 0, .int .i64 0, .int .i64 0, .string ⟨#[]⟩, .slice none 0 0] 43)) := (Below.refl _ _).alloc (Nat.le_refl _) _
  have hs1 : w1.heap.size < (w1.alloc (.cells #[.int .i64 0, .string ⟨#[]⟩, .slice none 0 0, .int .i64 0, .int .i64 0, .string ⟨#[]⟩, .slice none 0 0] 43)).heap.size := by simp
  go_enter Tryz.func94, Tryz.ntmps94
  go_upto_region 1 with fail
  generalize w1.alloc (.cells #[.int .i64 0, .string ⟨#[]⟩, .slice none 0 0, .int .i64 0, .int .i64 0, .string ⟨#[]⟩, .slice none 0 0] 43) = X at *
  have z0 : X.cell? ⟨w1.heap.size, 0, none⟩ = some (.int .i64 0) := cell_of_block kb rfl
  have y0 := frozen_of_block (o := 0) kb
  have z1 : X.cell? ⟨w1.heap.size, 1, none⟩ = some (.string ⟨#[]⟩) := cell_of_block kb rfl
  have y1 := frozen_of_block (o := 1) kb
  have z2 : X.cell? ⟨w1.heap.size, 2, none⟩ = some (.slice none 0 0) := cell_of_block kb rfl
  have y2 := frozen_of_block (o := 2) kb
  have z3 : X.cell? ⟨w1.heap.size, 3, none⟩ = some (.int .i64 0) := cell_of_block kb rfl
  have y3 := frozen_of_block (o := 3) kb
  have z4 : X.cell? ⟨w1.heap.size, 4, none⟩ = some (.int .i64 0) := cell_of_block kb rfl
  have y4 := frozen_of_block (o := 4) kb
  have z5 : X.cell? ⟨w1.heap.size, 5, none⟩ = some (.string ⟨#[]⟩) := cell_of_block kb rfl
  have y5 := frozen_of_block (o := 5) kb
  have z6 : X.cell? ⟨w1.heap.size, 6, none⟩ = some (.slice none 0 0) := cell_of_block kb rfl
  have y6 := frozen_of_block (o := 6) kb
  have KB := Lib.hid kb
  clear kb
  go_wp2_with fail
  have hfin := set7_blk (.int .i64 0) (.string ⟨#[]⟩) (.slice none 0 0) (.int .i64 0) (.int .i64 0) (.string ⟨#[]⟩) (.slice none 0 0) KB.out
  have hbel := set7_below (R := w1.heap.size) (.int .i64 0) (.string ⟨#[]⟩) (.slice none 0 0) (.int .i64 0) (.int .i64 0) (.string ⟨#[]⟩) (.slice none 0 0) B1 (Nat.le_refl _)
  generalize (((((((X.setCell ⟨w1.heap.size, 0, none⟩ (.int .i64 0)).setCell ⟨w1.heap.size, 1, none⟩ (.string ⟨#[]⟩)).setCell ⟨w1.heap.size, 2, none⟩ (.slice none 0 0)).setCell ⟨w1.heap.size, 3, none⟩ (.int .i64 0)).setCell ⟨w1.heap.size, 4, none⟩ (.int .i64 0)).setCell ⟨w1.heap.size, 5, none⟩ (.string ⟨#[]⟩)).setCell ⟨w1.heap.size, 6, none⟩ (.slice none 0 0)) = Wf at hfin hbel ⊢
  have u0 : Wf.cell? ⟨w1.heap.size, 0, none⟩ = some (.int .i64 0) := cell_of_block hfin rfl
  have u1 : Wf.cell? ⟨w1.heap.size, 1, none⟩ = some (.string ⟨#[]⟩) := cell_of_block hfin rfl
  have u2 : Wf.cell? ⟨w1.heap.size, 2, none⟩ = some (.slice none 0 0) := cell_of_block hfin rfl
  have u3 : Wf.cell? ⟨w1.heap.size, 3, none⟩ = some (.int .i64 0) := cell_of_block hfin rfl
  have u4 : Wf.cell? ⟨w1.heap.size, 4, none⟩ = some (.int .i64 0) := cell_of_block hfin rfl
  have u5 : Wf.cell? ⟨w1.heap.size, 5, none⟩ = some (.string ⟨#[]⟩) := cell_of_block hfin rfl
  have u6 : Wf.cell? ⟨w1.heap.size, 6, none⟩ = some (.slice none 0 0) := cell_of_block hfin rfl
  refine bodyPost_ret (v := .tuple #[aggOf zeroHd none 0 none 0 0, .bool false]) (by simp [results, Tryz.results94, go_sem, aggOf, zeroHd, u0, u1, u2, u3, u4, u5, u6]) rfl ?_
  exact ⟨rfl, hbel⟩

set_option maxRecDepth 100000 in
set_option maxHeartbeats 4000000 in
theorem place_out (f : Fo) (a : Option Addr) (ca : Nat) (b off c n : Nat) (i : Int) (w1 : World) (hb : b < w1.heap.size) (hn : n ≤ 1000000) (hl : f.len ≤ 2000000000000) (hi : w1.cell? ⟨b, off, none⟩ = some (.int .i64 i)) (ho : inB i 0 ((f.len : Int) - 1) = false) :
    Calls Tryz.prog 94 #[.slice a f.len ca, .slice (some ⟨b, off, none⟩) (n + 1) c] w1 fun e w' => e = .returned (.tuple #[aggOf zeroHd none 0 none 0 0, .bool false]) ∧ Below w1.heap.size w1 w' := by
  have IN := Lib.hid (fun w => in_any i 0 ((f.len : Int) - 1) w)
  rw [ho] at IN
  have e0 : (((n : Int) + 1) == 0) = false := by simp; omega
  have kb := World.alloc_heap_new w1 (.cells #[.int .i64 0, .string ⟨#[]⟩, .slice none 0 0, .int .i64 0, .int .i64 0, .string ⟨#[]⟩, .slice none 0 0] 43)
  have B1 : Below w1.heap.size w1 (w1.alloc (.cells #[.int .i64 0, .string ⟨#[]⟩, .slice none 0 0, .int .i64 0, .int .i64 0, .string ⟨#[]⟩, .slice none 0 0] 43)) := (Below.refl _ _).alloc (Nat.le_refl _) _
  have hs1 : w1.heap.size < (w1.alloc (.cells #[.int .i64 0, .string ⟨#[]⟩, .slice none 0 0, .int .i64 0, .int .i64 0, .string ⟨#[]⟩, .slice none 0 0] 43)).heap.size := by simp
  have hiX : (w1.alloc (.cells #[.int .i64 0, .string ⟨#[]⟩, .slice none 0 0, .int .i64 0, .int .i64 0, .string ⟨#[]⟩, .slice none 0 0] 43)).cell? ⟨b, off, none⟩ = some (.int .i64 i) := (World.cell?_of_block (Below.heap_alloc w1 _ b hb)).trans hi
  go_enter Tryz.func94, Tryz.ntmps94
  go_upto_region 1 with fail
  generalize w1.alloc (.cells #[.int .i64 0, .string ⟨#[]⟩, .slice none 0 0, .int .i64 0, .int .i64 0, .string ⟨#[]⟩, .slice none 0 0] 43) = X at *
  have z0 : X.cell? ⟨w1.heap.size, 0, none⟩ = some (.int .i64 0) := cell_of_block kb rfl
  have y0 := frozen_of_block (o := 0) kb
  have z1 : X.cell? ⟨w1.heap.size, 1, none⟩ = some (.string ⟨#[]⟩) := cell_of_block kb rfl
  have y1 := frozen_of_block (o := 1) kb
  have z2 : X.cell? ⟨w1.heap.size, 2, none⟩ = some (.slice none 0 0) := cell_of_block kb rfl
  have y2 := frozen_of_block (o := 2) kb
  have z3 : X.cell? ⟨w1.heap.size, 3, none⟩ = some (.int .i64 0) := cell_of_block kb rfl
  have y3 := frozen_of_block (o := 3) kb
  have z4 : X.cell? ⟨w1.heap.size, 4, none⟩ = some (.int .i64 0) := cell_of_block kb rfl
  have y4 := frozen_of_block (o := 4) kb
  have z5 : X.cell? ⟨w1.heap.size, 5, none⟩ = some (.string ⟨#[]⟩) := cell_of_block kb rfl
  have y5 := frozen_of_block (o := 5) kb
  have z6 : X.cell? ⟨w1.heap.size, 6, none⟩ = some (.slice none 0 0) := cell_of_block kb rfl
  have y6 := frozen_of_block (o := 6) kb
  have KB := Lib.hid kb
  clear kb
  go_wp2_with fail
  refine (IN.out X).mono ?_
  rintro e X2 ⟨rfl, rfl⟩
  go_wp2_with fail
  have hfin := set7_blk (.int .i64 0) (.string ⟨#[]⟩) (.slice none 0 0) (.int .i64 0) (.int .i64 0) (.string ⟨#[]⟩) (.slice none 0 0) KB.out
  have hbel := set7_below (R := w1.heap.size) (.int .i64 0) (.string ⟨#[]⟩) (.slice none 0 0) (.int .i64 0) (.int .i64 0) (.string ⟨#[]⟩) (.slice none 0 0) B1 (Nat.le_refl _)
  generalize (((((((X.setCell ⟨w1.heap.size, 0, none⟩ (.int .i64 0)).setCell ⟨w1.heap.size, 1, none⟩ (.string ⟨#[]⟩)).setCell ⟨w1.heap.size, 2, none⟩ (.slice none 0 0)).setCell ⟨w1.heap.size, 3, none⟩ (.int .i64 0)).setCell ⟨w1.heap.size, 4, none⟩ (.int .i64 0)).setCell ⟨w1.heap.size, 5, none⟩ (.string ⟨#[]⟩)).setCell ⟨w1.heap.size, 6, none⟩ (.slice none 0 0)) = Wf at hfin hbel ⊢
  have u0 : Wf.cell? ⟨w1.heap.size, 0, none⟩ = some (.int .i64 0) := cell_of_block hfin rfl
  have u1 : Wf.cell? ⟨w1.heap.size, 1, none⟩ = some (.string ⟨#[]⟩) := cell_of_block hfin rfl
  have u2 : Wf.cell? ⟨w1.heap.size, 2, none⟩ = some (.slice none 0 0) := cell_of_block hfin rfl
  have u3 : Wf.cell? ⟨w1.heap.size, 3, none⟩ = some (.int .i64 0) := cell_of_block hfin rfl
  have u4 : Wf.cell? ⟨w1.heap.size, 4, none⟩ = some (.int .i64 0) := cell_of_block hfin rfl
  have u5 : Wf.cell? ⟨w1.heap.size, 5, none⟩ = some (.string ⟨#[]⟩) := cell_of_block hfin rfl
  have u6 : Wf.cell? ⟨w1.heap.size, 6, none⟩ = some (.slice none 0 0) := cell_of_block hfin rfl
  refine bodyPost_ret (v := .tuple #[aggOf zeroHd none 0 none 0 0, .bool false]) (by simp [results, Tryz.results94, go_sem, aggOf, zeroHd, u0, u1, u2, u3, u4, u5, u6]) rfl ?_
  exact ⟨rfl, hbel⟩

set_option maxRecDepth 100000 in
set_option maxHeartbeats 4000000 in
theorem place_one (f : Fo) (b2 o2 cf b off c : Nat) (j : Nat) (hd : Hd) (ks : Fo) (aa : Option Addr) (ca : Nat) (ak : Option Addr) (ck : Nat) (w1 : World) (hb : b < w1.heap.size) (hl : f.len ≤ 2000000000000) (hi : w1.cell? ⟨b, off, none⟩ = some (.int .i64 j)) (hj : j < f.len) (hb2 : b2 < w1.heap.size)
    (q0 : w1.cell? ⟨b2, o2 + j * 7, none⟩ = some (.int .i64 hd.k))
    (q1 : w1.cell? ⟨b2, o2 + j * 7 + 1, none⟩ = some (.string ⟨hd.l.toArray⟩))
    (q2 : w1.cell? ⟨b2, o2 + j * 7 + 2, none⟩ = some (.slice aa hd.ats.length ca))
    (q3 : w1.cell? ⟨b2, o2 + j * 7 + 3, none⟩ = some (.int .i64 hd.n))
    (q4 : w1.cell? ⟨b2, o2 + j * 7 + 4, none⟩ = some (.int .i64 hd.d))
    (q5 : w1.cell? ⟨b2, o2 + j * 7 + 5, none⟩ = some (.string ⟨hd.x.toArray⟩))
    (q6 : w1.cell? ⟨b2, o2 + j * 7 + 6, none⟩ = some (.slice ak ks.len ck))
    : Calls Tryz.prog 94 #[.slice (some ⟨b2, o2, none⟩) f.len cf, .slice (some ⟨b, off, none⟩) 1 c] w1 fun e w' => e = .returned (.tuple #[aggOf hd aa ca ak ks.len ck, .bool true]) ∧ Below w1.heap.size w1 w' := by
  have IN := Lib.hid (fun w => in_any (j : Int) 0 ((f.len : Int) - 1) w)
  rw [show inB (j : Int) 0 ((f.len : Int) - 1) = true by unfold inB; simp; omega] at IN
  have kb := World.alloc_heap_new w1 (.cells #[.int .i64 0, .string ⟨#[]⟩, .slice none 0 0, .int .i64 0, .int .i64 0, .string ⟨#[]⟩, .slice none 0 0] 43)
  have B1 : Below w1.heap.size w1 (w1.alloc (.cells #[.int .i64 0, .string ⟨#[]⟩, .slice none 0 0, .int .i64 0, .int .i64 0, .string ⟨#[]⟩, .slice none 0 0] 43)) := (Below.refl _ _).alloc (Nat.le_refl _) _
  have hs1 : w1.heap.size < (w1.alloc (.cells #[.int .i64 0, .string ⟨#[]⟩, .slice none 0 0, .int .i64 0, .int .i64 0, .string ⟨#[]⟩, .slice none 0 0] 43)).heap.size := by simp
  have hiX : (w1.alloc (.cells #[.int .i64 0, .string ⟨#[]⟩, .slice none 0 0, .int .i64 0, .int .i64 0, .string ⟨#[]⟩, .slice none 0 0] 43)).cell? ⟨b, off, none⟩ = some (.int .i64 j) := (World.cell?_of_block (Below.heap_alloc w1 _ b hb)).trans hi
  have r0 : (w1.alloc (.cells #[.int .i64 0, .string ⟨#[]⟩, .slice none 0 0, .int .i64 0, .int .i64 0, .string ⟨#[]⟩, .slice none 0 0] 43)).cell? ⟨b2, o2 + j * 7, none⟩ = some (.int .i64 hd.k) := (World.cell?_of_block (Below.heap_alloc w1 _ b2 hb2)).trans q0
  have r1 : (w1.alloc (.cells #[.int .i64 0, .string ⟨#[]⟩, .slice none 0 0, .int .i64 0, .int .i64 0, .string ⟨#[]⟩, .slice none 0 0] 43)).cell? ⟨b2, o2 + j * 7 + 1, none⟩ = some (.string ⟨hd.l.toArray⟩) := (World.cell?_of_block (Below.heap_alloc w1 _ b2 hb2)).trans q1
  have r2 : (w1.alloc (.cells #[.int .i64 0, .string ⟨#[]⟩, .slice none 0 0, .int .i64 0, .int .i64 0, .string ⟨#[]⟩, .slice none 0 0] 43)).cell? ⟨b2, o2 + j * 7 + 2, none⟩ = some (.slice aa hd.ats.length ca) := (World.cell?_of_block (Below.heap_alloc w1 _ b2 hb2)).trans q2
  have r3 : (w1.alloc (.cells #[.int .i64 0, .string ⟨#[]⟩, .slice none 0 0, .int .i64 0, .int .i64 0, .string ⟨#[]⟩, .slice none 0 0] 43)).cell? ⟨b2, o2 + j * 7 + 3, none⟩ = some (.int .i64 hd.n) := (World.cell?_of_block (Below.heap_alloc w1 _ b2 hb2)).trans q3
  have r4 : (w1.alloc (.cells #[.int .i64 0, .string ⟨#[]⟩, .slice none 0 0, .int .i64 0, .int .i64 0, .string ⟨#[]⟩, .slice none 0 0] 43)).cell? ⟨b2, o2 + j * 7 + 4, none⟩ = some (.int .i64 hd.d) := (World.cell?_of_block (Below.heap_alloc w1 _ b2 hb2)).trans q4
  have r5 : (w1.alloc (.cells #[.int .i64 0, .string ⟨#[]⟩, .slice none 0 0, .int .i64 0, .int .i64 0, .string ⟨#[]⟩, .slice none 0 0] 43)).cell? ⟨b2, o2 + j * 7 + 5, none⟩ = some (.string ⟨hd.x.toArray⟩) := (World.cell?_of_block (Below.heap_alloc w1 _ b2 hb2)).trans q5
  have r6 : (w1.alloc (.cells #[.int .i64 0, .string ⟨#[]⟩, .slice none 0 0, .int .i64 0, .int .i64 0, .string ⟨#[]⟩, .slice none 0 0] 43)).cell? ⟨b2, o2 + j * 7 + 6, none⟩ = some (.slice ak ks.len ck) := (World.cell?_of_block (Below.heap_alloc w1 _ b2 hb2)).trans q6
  have nb2 : ¬ b2 = w1.heap.size := by omega
  have nb3 : ¬ w1.heap.size = b2 := by omega
  clear q0 q1 q2 q3 q4 q5 q6
  go_enter Tryz.func94, Tryz.ntmps94
  go_upto_region 1 with fail
  generalize w1.alloc (.cells #[.int .i64 0, .string ⟨#[]⟩, .slice none 0 0, .int .i64 0, .int .i64 0, .string ⟨#[]⟩, .slice none 0 0] 43) = X at *
  have z0 : X.cell? ⟨w1.heap.size, 0, none⟩ = some (.int .i64 0) := cell_of_block kb rfl
  have y0 := frozen_of_block (o := 0) kb
  have z1 : X.cell? ⟨w1.heap.size, 1, none⟩ = some (.string ⟨#[]⟩) := cell_of_block kb rfl
  have y1 := frozen_of_block (o := 1) kb
  have z2 : X.cell? ⟨w1.heap.size, 2, none⟩ = some (.slice none 0 0) := cell_of_block kb rfl
  have y2 := frozen_of_block (o := 2) kb
  have z3 : X.cell? ⟨w1.heap.size, 3, none⟩ = some (.int .i64 0) := cell_of_block kb rfl
  have y3 := frozen_of_block (o := 3) kb
  have z4 : X.cell? ⟨w1.heap.size, 4, none⟩ = some (.int .i64 0) := cell_of_block kb rfl
  have y4 := frozen_of_block (o := 4) kb
  have z5 : X.cell? ⟨w1.heap.size, 5, none⟩ = some (.string ⟨#[]⟩) := cell_of_block kb rfl
  have y5 := frozen_of_block (o := 5) kb
  have z6 : X.cell? ⟨w1.heap.size, 6, none⟩ = some (.slice none 0 0) := cell_of_block kb rfl
  have y6 := frozen_of_block (o := 6) kb
  have KB := Lib.hid kb
  clear kb
  go_wp2_with fail
  refine (IN.out X).mono ?_
  rintro e X2 ⟨rfl, rfl⟩
  go_wp2_with fail
  have hfin := set7_blk (.int .i64 hd.k) (.string ⟨hd.l.toArray⟩) (.slice aa hd.ats.length ca) (.int .i64 hd.n) (.int .i64 hd.d) (.string ⟨hd.x.toArray⟩) (.slice ak ks.len ck) KB.out
  have hbel := set7_below (R := w1.heap.size) (.int .i64 hd.k) (.string ⟨hd.l.toArray⟩) (.slice aa hd.ats.length ca) (.int .i64 hd.n) (.int .i64 hd.d) (.string ⟨hd.x.toArray⟩) (.slice ak ks.len ck) B1 (Nat.le_refl _)
  generalize (((((((X.setCell ⟨w1.heap.size, 0, none⟩ (.int .i64 hd.k)).setCell ⟨w1.heap.size, 1, none⟩ (.string ⟨hd.l.toArray⟩)).setCell ⟨w1.heap.size, 2, none⟩ (.slice aa hd.ats.length ca)).setCell ⟨w1.heap.size, 3, none⟩ (.int .i64 hd.n)).setCell ⟨w1.heap.size, 4, none⟩ (.int .i64 hd.d)).setCell ⟨w1.heap.size, 5, none⟩ (.string ⟨hd.x.toArray⟩)).setCell ⟨w1.heap.size, 6, none⟩ (.slice ak ks.len ck)) = Wf at hfin hbel ⊢
  have u0 : Wf.cell? ⟨w1.heap.size, 0, none⟩ = some (.int .i64 hd.k) := cell_of_block hfin rfl
  have u1 : Wf.cell? ⟨w1.heap.size, 1, none⟩ = some (.string ⟨hd.l.toArray⟩) := cell_of_block hfin rfl
  have u2 : Wf.cell? ⟨w1.heap.size, 2, none⟩ = some (.slice aa hd.ats.length ca) := cell_of_block hfin rfl
  have u3 : Wf.cell? ⟨w1.heap.size, 3, none⟩ = some (.int .i64 hd.n) := cell_of_block hfin rfl
  have u4 : Wf.cell? ⟨w1.heap.size, 4, none⟩ = some (.int .i64 hd.d) := cell_of_block hfin rfl
  have u5 : Wf.cell? ⟨w1.heap.size, 5, none⟩ = some (.string ⟨hd.x.toArray⟩) := cell_of_block hfin rfl
  have u6 : Wf.cell? ⟨w1.heap.size, 6, none⟩ = some (.slice ak ks.len ck) := cell_of_block hfin rfl
  refine bodyPost_ret (v := .tuple #[aggOf hd aa ca ak ks.len ck, .bool true]) (by simp [results, Tryz.results94, go_sem, aggOf,  u0, u1, u2, u3, u4, u5, u6]) rfl ?_
  exact ⟨rfl, hbel⟩

set_option maxRecDepth 100000 in
set_option maxHeartbeats 4000000 in
theorem place_more (f : Fo) (b2 o2 cf b off c n : Nat) (j : Nat) (ak : Option Addr) (kn ck : Nat) (h : Hd) (ks : Fo) (aa' : Option Addr) (ca' : Nat) (ak' : Option Addr) (ck' : Nat) (res : Bool) (w1 : World) (hb : b < w1.heap.size) (hl : f.len ≤ 2000000000000) (hn : n ≤ 1000000) (hc : n + 2 ≤ c)
    (hi : w1.cell? ⟨b, off, none⟩ = some (.int .i64 j)) (hj : j < f.len) (hb2 : b2 < w1.heap.size) (q6 : w1.cell? ⟨b2, o2 + j * 7 + 6, none⟩ = some (.slice ak kn ck))
    (HC : ∀ W, Below w1.heap.size w1 W → Calls Tryz.prog 94 #[.slice ak kn ck, .slice (some ⟨b, off + 1, none⟩) (n + 1) (c - 1)] W fun e w' => e = .returned (.tuple #[aggOf h aa' ca' ak' ks.len ck', .bool res]) ∧ Below W.heap.size W w')
    : Calls Tryz.prog 94 #[.slice (some ⟨b2, o2, none⟩) f.len cf, .slice (some ⟨b, off, none⟩) (n + 2) c] w1 fun e w' => e = .returned (.tuple #[aggOf h aa' ca' ak' ks.len ck', .bool res]) ∧ Below w1.heap.size w1 w' := by
  have IN := Lib.hid (fun w => in_any (j : Int) 0 ((f.len : Int) - 1) w)
  rw [show inB (j : Int) 0 ((f.len : Int) - 1) = true by unfold inB; simp; omega] at IN
  have HC' := Lib.hid HC
  clear HC
  have e0 : (((n : Int) + 2) == 0) = false := by simp; omega
  have e1 : (((n : Int) + 2) == 1) = false := by simp; omega
  have kb := World.alloc_heap_new w1 (.cells #[.int .i64 0, .string ⟨#[]⟩, .slice none 0 0, .int .i64 0, .int .i64 0, .string ⟨#[]⟩, .slice none 0 0] 43)
  have B1 : Below w1.heap.size w1 (w1.alloc (.cells #[.int .i64 0, .string ⟨#[]⟩, .slice none 0 0, .int .i64 0, .int .i64 0, .string ⟨#[]⟩, .slice none 0 0] 43)) := (Below.refl _ _).alloc (Nat.le_refl _) _
  have hs1 : w1.heap.size < (w1.alloc (.cells #[.int .i64 0, .string ⟨#[]⟩, .slice none 0 0, .int .i64 0, .int .i64 0, .string ⟨#[]⟩, .slice none 0 0] 43)).heap.size := by simp
  have hiX : (w1.alloc (.cells #[.int .i64 0, .string ⟨#[]⟩, .slice none 0 0, .int .i64 0, .int .i64 0, .string ⟨#[]⟩, .slice none 0 0] 43)).cell? ⟨b, off, none⟩ = some (.int .i64 j) := (World.cell?_of_block (Below.heap_alloc w1 _ b hb)).trans hi
  have r6 : (w1.alloc (.cells #[.int .i64 0, .string ⟨#[]⟩, .slice none 0 0, .int .i64 0, .int .i64 0, .string ⟨#[]⟩, .slice none 0 0] 43)).cell? ⟨b2, o2 + j * 7 + 6, none⟩ = some (.slice ak kn ck) := (World.cell?_of_block (Below.heap_alloc w1 _ b2 hb2)).trans q6
  have nb2 : ¬ b2 = w1.heap.size := by omega
  have nb3 : ¬ w1.heap.size = b2 := by omega
  clear q6
  unfold aggOf at HC' ⊢
  go_enter Tryz.func94, Tryz.ntmps94
  go_upto_region 1 with fail
  generalize w1.alloc (.cells #[.int .i64 0, .string ⟨#[]⟩, .slice none 0 0, .int .i64 0, .int .i64 0, .string ⟨#[]⟩, .slice none 0 0] 43) = X at *
  have z0 : X.cell? ⟨w1.heap.size, 0, none⟩ = some (.int .i64 0) := cell_of_block kb rfl
  have y0 := frozen_of_block (o := 0) kb
  have z1 : X.cell? ⟨w1.heap.size, 1, none⟩ = some (.string ⟨#[]⟩) := cell_of_block kb rfl
  have y1 := frozen_of_block (o := 1) kb
  have z2 : X.cell? ⟨w1.heap.size, 2, none⟩ = some (.slice none 0 0) := cell_of_block kb rfl
  have y2 := frozen_of_block (o := 2) kb
  have z3 : X.cell? ⟨w1.heap.size, 3, none⟩ = some (.int .i64 0) := cell_of_block kb rfl
  have y3 := frozen_of_block (o := 3) kb
  have z4 : X.cell? ⟨w1.heap.size, 4, none⟩ = some (.int .i64 0) := cell_of_block kb rfl
  have y4 := frozen_of_block (o := 4) kb
  have z5 : X.cell? ⟨w1.heap.size, 5, none⟩ = some (.string ⟨#[]⟩) := cell_of_block kb rfl
  have y5 := frozen_of_block (o := 5) kb
  have z6 : X.cell? ⟨w1.heap.size, 6, none⟩ = some (.slice none 0 0) := cell_of_block kb rfl
  have y6 := frozen_of_block (o := 6) kb
  have hbX : b < X.heap.size := by omega
  have hb2X : b2 < X.heap.size := by omega
  have PL := Lib.hid (fun z : Lower X => HC'.out z.val (B1.trans (z.prop.mono B1.size)))
  have KB := Lib.hid kb
  clear kb
  go_wp2_with fail
  refine (IN.out X).mono ?_
  rintro e X2 ⟨rfl, rfl⟩
  go_wp2_with fail
  refine wp_region_quiet_tail (fun w' => ∃ x : Lower _, w' = x.val) 12 (by kernel_rfl) (by kernel_rfl) ⟨⟨_, (Below.refl _ _).drew⟩, rfl⟩ ?_
  simp only [List.take_succ_cons, List.take_zero, List.drop_succ_cons, List.drop_zero]
  repeat (go_big_quiet_step ((go_at_call 94; exact calls_lower _ (PL.out _))))
  refine wpQuiet_nil ?_
  intro w5 hx5
  obtain ⟨x5, hx5⟩ := hx5
  have hb5 := x5.prop
  rw [← hx5] at hb5
  clear hx5 x5
  obtain ⟨hc5, hf5⟩ := bcell hb5
  have hs5 := hb5.size
  try simp at hs5
  try have hz50 : w.heap.size < w5.heap.size := by omega
  try have hz51 : w.heap.size + 1 < w5.heap.size := by omega
  try have hz52 : w.heap.size + 1 + 1 < w5.heap.size := by omega
  try have hz53 : w.heap.size + 1 + 1 + 1 < w5.heap.size := by omega
  try have hz54 : w.heap.size + 1 + 1 + 1 + 1 < w5.heap.size := by omega
  try have hz55 : w.heap.size + 1 + 1 + 1 + 1 + 1 < w5.heap.size := by omega
  try have hy1_5 : w1.heap.size < w5.heap.size := by omega
  try have hy2_5 : w2.heap.size < w5.heap.size := by omega
  try have hy3_5 : w3.heap.size < w5.heap.size := by omega
  try have hy4_5 : w4.heap.size < w5.heap.size := by omega
  have k5 := (hb5.block _ hs1).trans KB.out
  have x0 : w5.cell? ⟨w1.heap.size, 0, none⟩ = some (.int .i64 0) := cell_of_block k5 rfl
  have v0 := frozen_of_block (o := 0) k5
  have x1 : w5.cell? ⟨w1.heap.size, 1, none⟩ = some (.string ⟨#[]⟩) := cell_of_block k5 rfl
  have v1 := frozen_of_block (o := 1) k5
  have x2 : w5.cell? ⟨w1.heap.size, 2, none⟩ = some (.slice none 0 0) := cell_of_block k5 rfl
  have v2 := frozen_of_block (o := 2) k5
  have x3 : w5.cell? ⟨w1.heap.size, 3, none⟩ = some (.int .i64 0) := cell_of_block k5 rfl
  have v3 := frozen_of_block (o := 3) k5
  have x4 : w5.cell? ⟨w1.heap.size, 4, none⟩ = some (.int .i64 0) := cell_of_block k5 rfl
  have v4 := frozen_of_block (o := 4) k5
  have x5 : w5.cell? ⟨w1.heap.size, 5, none⟩ = some (.string ⟨#[]⟩) := cell_of_block k5 rfl
  have v5 := frozen_of_block (o := 5) k5
  have x6 : w5.cell? ⟨w1.heap.size, 6, none⟩ = some (.slice none 0 0) := cell_of_block k5 rfl
  have v6 := frozen_of_block (o := 6) k5
  have KB5 := Lib.hid k5
  have B5 := B1.trans (hb5.mono B1.size)
  clear k5
  go_wp2_with fail
  have hfin := set7_blk (.int .i64 h.k) (.string ⟨h.l.toArray⟩) (.slice aa' h.ats.length ca') (.int .i64 h.n) (.int .i64 h.d) (.string ⟨h.x.toArray⟩) (.slice ak' ks.len ck') KB5.out
  have hbel := set7_below (R := w1.heap.size) (.int .i64 h.k) (.string ⟨h.l.toArray⟩) (.slice aa' h.ats.length ca') (.int .i64 h.n) (.int .i64 h.d) (.string ⟨h.x.toArray⟩) (.slice ak' ks.len ck') B5 (Nat.le_refl _)
  generalize (((((((w5.setCell ⟨w1.heap.size, 0, none⟩ (.int .i64 h.k)).setCell ⟨w1.heap.size, 1, none⟩ (.string ⟨h.l.toArray⟩)).setCell ⟨w1.heap.size, 2, none⟩ (.slice aa' h.ats.length ca')).setCell ⟨w1.heap.size, 3, none⟩ (.int .i64 h.n)).setCell ⟨w1.heap.size, 4, none⟩ (.int .i64 h.d)).setCell ⟨w1.heap.size, 5, none⟩ (.string ⟨h.x.toArray⟩)).setCell ⟨w1.heap.size, 6, none⟩ (.slice ak' ks.len ck')) = Wf at hfin hbel ⊢
  have u0 : Wf.cell? ⟨w1.heap.size, 0, none⟩ = some (.int .i64 h.k) := cell_of_block hfin rfl
  have u1 : Wf.cell? ⟨w1.heap.size, 1, none⟩ = some (.string ⟨h.l.toArray⟩) := cell_of_block hfin rfl
  have u2 : Wf.cell? ⟨w1.heap.size, 2, none⟩ = some (.slice aa' h.ats.length ca') := cell_of_block hfin rfl
  have u3 : Wf.cell? ⟨w1.heap.size, 3, none⟩ = some (.int .i64 h.n) := cell_of_block hfin rfl
  have u4 : Wf.cell? ⟨w1.heap.size, 4, none⟩ = some (.int .i64 h.d) := cell_of_block hfin rfl
  have u5 : Wf.cell? ⟨w1.heap.size, 5, none⟩ = some (.string ⟨h.x.toArray⟩) := cell_of_block hfin rfl
  have u6 : Wf.cell? ⟨w1.heap.size, 6, none⟩ = some (.slice ak' ks.len ck') := cell_of_block hfin rfl
  refine bodyPost_ret (v := .tuple #[aggOf h aa' ca' ak' ks.len ck', .bool res]) (by simp [results, Tryz.results94, go_sem, aggOf,  u0, u1, u2, u3, u4, u5, u6]) rfl ?_
  exact ⟨rfl, hbel⟩

/-- Place gives the tree at a path as it lies, whatever has been laid behind. -/
theorem place_any : ∀ (p : List Int) (f : Fo) (v pv : Value) (w : World), Lies w v f → IntsLie w pv p → p.length ≤ 1000000 →
    ∃ V, PlaceVal w f p V ∧ ∀ w1, Below w.heap.size w w1 → Calls Tryz.prog 94 #[v, pv] w1 fun e w' => e = .returned V ∧ Below w1.heap.size w1 w'
  | [], f, v, pv, w, _, hp, _ => by
    obtain ⟨a, c, rfl⟩ := ints_form hp
    exact ⟨_, PlaceVal.none (by cases f <;> rfl), fun w1 _ => place_nil v a c w1⟩
  | i :: r, f, v, pv, w, hl, hp, hn => by
    have hlen := lies_len hl
    obtain ⟨b, off, c, rfl, hc, hb, hcs⟩ := ints_cells hp (by simp)
    have hi : w.cell? ⟨b, off, none⟩ = some (.int .i64 i) := hcs 0 (by simp)
    simp only [List.length_cons] at hn hc
    cases ho : inB i 0 ((f.len : Int) - 1) with
    | false =>
      obtain ⟨a, ca, rfl⟩ := lies_form hl
      have hno : placeF f (i :: r) = none := by
        unfold placeF
        by_cases h0 : i < 0
        · rw [if_pos h0]
        · rw [if_neg h0]
          have : f.len ≤ i.toNat := by
            unfold inB at ho
            simp at ho
            omega
          rw [Fo.drop_ge _ _ this]
      exact ⟨_, PlaceVal.none hno, fun w1 h1 => place_out f a ca b off c r.length i w1 (Nat.lt_of_lt_of_le hb h1.size) (by omega) hlen ((h1.cell (p := ⟨b, off, none⟩) hb).trans hi) ho⟩
    | true =>
      have h0 : 0 ≤ i ∧ i < f.len := by unfold inB at ho; simp at ho; omega
      obtain ⟨j, rfl⟩ : ∃ j : Nat, i = (j : Int) := ⟨i.toNat, by omega⟩
      have hj : j < f.len := by omega
      obtain ⟨b2, o2, cf, rfl, hcf, -, hb2, hrow⟩ := lies_row hl (by omega)
      obtain ⟨hd, ks, e, ⟨q0, q1, ⟨va, q2, ha⟩, q3, q4, q5⟩, vk, q6, hk⟩ := row_get hrow hj
      obtain ⟨aa, ca, rfl⟩ := attrs_form ha
      obtain ⟨ak, ck, rfl⟩ := lies_form hk
      have hpl : placeF f ((j : Int) :: r) = if r = [] then some (hd, ks) else placeF ks r := by
        rw [placeF, if_neg (by omega), Int.toNat_natCast, e]
      cases r with
      | nil =>
        refine ⟨_, ⟨hd, ks, aa, ca, ak, ck, rfl, ha, hk, .inl (hpl.trans (if_pos rfl))⟩, fun w1 h1 => ?_⟩
        rw [hpl, if_pos rfl]
        exact place_one f b2 o2 cf b off c j hd ks aa ca ak ck w1 (Nat.lt_of_lt_of_le hb h1.size) hlen ((h1.cell (p := ⟨b, off, none⟩) hb).trans hi) hj (Nat.lt_of_lt_of_le hb2 h1.size)
          ((h1.cell (p := ⟨b2, o2 + j * 7, none⟩) hb2).trans q0) ((h1.cell (p := ⟨b2, o2 + j * 7 + 1, none⟩) hb2).trans q1) ((h1.cell (p := ⟨b2, o2 + j * 7 + 2, none⟩) hb2).trans q2) ((h1.cell (p := ⟨b2, o2 + j * 7 + 3, none⟩) hb2).trans q3) ((h1.cell (p := ⟨b2, o2 + j * 7 + 4, none⟩) hb2).trans q4) ((h1.cell (p := ⟨b2, o2 + j * 7 + 5, none⟩) hb2).trans q5) ((h1.cell (p := ⟨b2, o2 + j * 7 + 6, none⟩) hb2).trans q6)
      | cons i2 r2 =>
        have hq : placeF f ((j : Int) :: i2 :: r2) = placeF ks (i2 :: r2) := hpl.trans (if_neg (by simp))
        obtain ⟨V, ⟨h', ks', a1, c1, a2, c2, rfl, hA, hK, hor⟩, hV⟩ := place_any (i2 :: r2) ks _ _ w hk (ints_tail hp) (by simpa using by simp at hn; omega)
        refine ⟨_, ⟨h', ks', a1, c1, a2, c2, rfl, hA, hK, by rw [hq]; exact hor⟩, fun w1 h1 => ?_⟩
        rw [hq]
        simp only [List.length_cons] at hn hc ⊢
        exact place_more f b2 o2 cf b off c r2.length j ak ks.len ck h' ks' a1 c1 a2 c2 _ w1 (Nat.lt_of_lt_of_le hb h1.size) hlen (by omega) (by omega) ((h1.cell (p := ⟨b, off, none⟩) hb).trans hi) hj (Nat.lt_of_lt_of_le hb2 h1.size) ((h1.cell (p := ⟨b2, o2 + j * 7 + 6, none⟩) hb2).trans q6)
          (fun W hW => hV W (h1.trans (hW.mono h1.size)))
end Go.Proofs.YtcgedpfolloinaaGreat

namespace Go.Proofs.YtcgedpfolloinaaGreat
open Go.RowKit

theorem place_size : ∀ {p : List Int} {f : Fo} {h : Hd} {ks : Fo}, placeF f p = some (h, ks) → ks.size + 1 ≤ f.size
  | [], f, h, ks, e => by cases f <;> cases e
  | i :: p, f, h, ks, e => by
    by_cases h0 : i < 0
    · rw [placeF, if_pos h0] at e; cases e
    · rw [placeF, if_neg h0] at e
      have hsz := congrArg Fo.size (Fo.take_app_drop i.toNat f)
      rw [Fo.size_app] at hsz
      cases hd : f.drop i.toNat with
      | nil => rw [hd] at e; cases e
      | cons h1 k1 r1 =>
        rw [hd] at e hsz
        simp only [Fo.size] at hsz
        simp only at e
        by_cases hp : p = []
        · rw [if_pos hp] at e
          obtain ⟨rfl, rfl⟩ := Prod.mk.inj (Option.some.inj e)
          omega
        · rw [if_neg hp] at e
          have := place_size e
          omega
theorem lies_one {w : World} {b : Nat} {h : Hd} {ks : Fo} {aa : Option Addr} {ca : Nat} {ak : Option Addr} {ck : Nat} (hb : w.heap[b]? = some (.cells #[.int .i64 h.k, .string ⟨h.l.toArray⟩, .slice aa h.ats.length ca, .int .i64 h.n, .int .i64 h.d, .string ⟨h.x.toArray⟩, .slice ak ks.len ck] 43)) (ha : AttrsLie w (.slice aa h.ats.length ca) h.ats) (hk : Lies w (.slice ak ks.len ck) ks) :
    Lies w (.slice (some ⟨b, 0, none⟩) 1 1) (.cons h ks .nil) := by
  have hlt : b < w.heap.size := (Array.getElem?_eq_some_iff.1 hb).1
  exact .inr ⟨b, 0, 1, rfl, Nat.le_refl _, by simp [Fo.len], hlt, ⟨⟨cell_of_block hb rfl, cell_of_block hb rfl, ⟨_, cell_of_block hb rfl, ha⟩, cell_of_block hb rfl, cell_of_block hb rfl, cell_of_block hb rfl⟩, ⟨_, cell_of_block hb rfl, hk⟩, trivial⟩⟩
end Go.Proofs.YtcgedpfolloinaaGreat

namespace Go.Proofs.YtcgedpfolloinaaGreat
open Go.RowKit

def kidsV (f : Fo) (p : List Int) : Fo × Int :=
  if foErr f ≠ 0 then (.nil, foErr f) else if p = [] then (f, 0) else match placeF f p with
    | none => (.nil, 6)
    | some (h, ks) => if h.k ≠ 0 then (.nil, 9) else (ks, 0)
def FoRes (w : World) (r : Fo × Int) (e : Ending) (w' : World) : Prop :=
  ∃ a cap, e = .returned (.tuple #[.slice a r.1.len cap, .int .i64 r.2]) ∧ LiesF w.heap.size w' (.slice a r.1.len cap) r.1 ∧ Below w.heap.size w w'
theorem FoRes.none {w w' : World} {er : Int} (h : Below w.heap.size w w') : FoRes w (.nil, er) (.returned (.tuple #[.slice .none 0 0, .int .i64 er])) w' := ⟨.none, 0, rfl, .inl ⟨_, _, rfl, rfl⟩, h⟩

set_option maxRecDepth 100000 in
set_option maxHeartbeats 4000000 in
theorem qkids_bad (f : Fo) (p : List Int) (v pv : Value) (w : World) (hl : Lies w v f) (hs : Small f) (hp : IntsLie w pv p) (_ : p.length ≤ 1000000) (he : foErr f ≠ 0) :
    Calls Tryz.prog 34 #[v, pv] w (FoRes w (kidsV f p)) := by
  have CH := Lib.hid (fun W (hW : Below w.heap.size w W) => qcheck_any f v W (lies_below hl hW) hs)
  have B0 := Below.refl w.heap.size w
  rw [show kidsV f p = (.nil, foErr f) by unfold kidsV; rw [if_pos he]]
  obtain ⟨a, cap, rfl⟩ := lies_form hl
  obtain ⟨pa, pc, rfl⟩ := ints_form hp
  have b0 : (foErr f != 0) = true := by simpa using he
  clear hl hp hs he
  generalize foErr f = ee at *
  go_enter Tryz.func34, Tryz.ntmps34
  go_wp2_with fail
  refine (CH.out w B0).mono ?_
  rintro e X1 ⟨rfl, hb1⟩
  have B1 := B0.trans (hb1.mono B0.size)
  clear hb1
  go_wp2_with fail
  go_ret2
  exact FoRes.none B1

set_option maxRecDepth 100000 in
set_option maxHeartbeats 4000000 in
theorem qkids_nil (f : Fo) (p : List Int) (v pv : Value) (w : World) (hl : Lies w v f) (hs : Small f) (hp : IntsLie w pv p) (_ : p.length ≤ 1000000) (he : foErr f = 0) (h0 : p = []) :
    Calls Tryz.prog 34 #[v, pv] w (FoRes w (kidsV f p)) := by
  have CH := Lib.hid (fun W (hW : Below w.heap.size w W) => qcheck_any f v W (lies_below hl hW) hs)
  have B0 := Below.refl w.heap.size w
  rw [show kidsV f p = (f, 0) by unfold kidsV; rw [if_neg (by simpa using he), if_pos h0]]
  rw [he] at CH
  subst h0
  have hfs := hs.size
  have HC := Lib.hid (fun W (hW : Below w.heap.size w W) => copyOf_any _ f (Nat.le_refl _) (by omega) v W (lies_below hl hW))
  obtain ⟨a, cap, rfl⟩ := lies_form hl
  obtain ⟨pa, pc, rfl⟩ := ints_form hp
  simp only [List.length_nil] at hp ⊢
  clear hl hp hs he
  go_enter Tryz.func34, Tryz.ntmps34
  go_wp2_with fail
  refine (CH.out w B0).mono ?_
  rintro e X1 ⟨rfl, hb1⟩
  have B1 := B0.trans (hb1.mono B0.size)
  clear hb1
  go_wp2_with fail
  refine (HC.out X1 B1).mono ?_
  rintro e X2 ⟨a2, c2, rfl, hL2, hb2⟩
  have HL2 := Lib.hid (liesF_mono (B' := w.heap.size) B1.size hL2)
  have B2 := B1.trans (hb2.mono B1.size)
  clear hL2 hb2
  go_wp2_with fail
  go_ret2
  exact ⟨a2, c2, rfl, HL2.out, B2⟩

set_option maxRecDepth 100000 in
set_option maxHeartbeats 4000000 in
theorem qkids_absent (f : Fo) (p : List Int) (v pv : Value) (w : World) (hl : Lies w v f) (hs : Small f) (hp : IntsLie w pv p) (hpl : p.length ≤ 1000000) (he : foErr f = 0) (h0 : p ≠ []) (hno : placeF f p = none) :
    Calls Tryz.prog 34 #[v, pv] w (FoRes w (kidsV f p)) := by
  have CH := Lib.hid (fun W (hW : Below w.heap.size w W) => qcheck_any f v W (lies_below hl hW) hs)
  have B0 := Below.refl w.heap.size w
  rw [show kidsV f p = (.nil, 6) by unfold kidsV; rw [if_neg (by simpa using he), if_neg h0, hno]]
  rw [he] at CH
  obtain ⟨V, ⟨h, ks, aa, ca, ak, ck, rfl, hA, hK, hor⟩, hV⟩ := place_any p f v pv w hl hp hpl
  have PV := Lib.hid hV
  clear hV
  rw [hno] at hor PV
  unfold aggOf at PV
  simp only [Option.isSome_none] at PV
  obtain ⟨a, cap, rfl⟩ := lies_form hl
  obtain ⟨pa, pc, rfl⟩ := ints_form hp
  have e0 : ((p.length : Int) == 0) = false := by simp; exact h0
  clear hl hp hs he hA hK hor hno h0
  go_enter Tryz.func34, Tryz.ntmps34
  go_wp2_with fail
  refine (CH.out w B0).mono ?_
  rintro e X1 ⟨rfl, hb1⟩
  have B1 := B0.trans (hb1.mono B0.size)
  clear hb1
  go_wp2_with fail
  refine (PV.out X1 B1).mono ?_
  rintro e X2 ⟨rfl, hb2⟩
  have B2 := B1.trans (hb2.mono B1.size)
  clear hb2
  go_upto_region 7 with fail
  have k3 := World.alloc_heap_new X2 (.cells #[.int .i64 h.k, .string ⟨h.l.toArray⟩, .slice aa h.ats.length ca, .int .i64 h.n, .int .i64 h.d, .string ⟨h.x.toArray⟩, .slice ak ks.len ck] 43)
  have B3 : Below w.heap.size w (X2.alloc (.cells #[.int .i64 h.k, .string ⟨h.l.toArray⟩, .slice aa h.ats.length ca, .int .i64 h.n, .int .i64 h.d, .string ⟨h.x.toArray⟩, .slice ak ks.len ck] 43)) := B2.alloc B2.size _
  have hs3 : X2.heap.size < (X2.alloc (.cells #[.int .i64 h.k, .string ⟨h.l.toArray⟩, .slice aa h.ats.length ca, .int .i64 h.n, .int .i64 h.d, .string ⟨h.x.toArray⟩, .slice ak ks.len ck] 43)).heap.size := by simp
  generalize X2.alloc (.cells #[.int .i64 h.k, .string ⟨h.l.toArray⟩, .slice aa h.ats.length ca, .int .i64 h.n, .int .i64 h.d, .string ⟨h.x.toArray⟩, .slice ak ks.len ck] 43) = X3 at *
  clear k3
  go_wp2_with fail
  go_ret2
  exact FoRes.none B3

set_option maxRecDepth 100000 in
set_option maxHeartbeats 4000000 in
theorem qkids_kind (f : Fo) (p : List Int) (v pv : Value) (w : World) (hl : Lies w v f) (hs : Small f) (hp : IntsLie w pv p) (hpl : p.length ≤ 1000000) (he : foErr f = 0) (h0 : p ≠ []) (hd0 : Hd) (ks0 : Fo) (hno : placeF f p = some (hd0, ks0)) (hk : hd0.k ≠ 0) :
    Calls Tryz.prog 34 #[v, pv] w (FoRes w (kidsV f p)) := by
  have CH := Lib.hid (fun W (hW : Below w.heap.size w W) => qcheck_any f v W (lies_below hl hW) hs)
  have B0 := Below.refl w.heap.size w
  rw [show kidsV f p = (.nil, 9) by unfold kidsV; rw [if_neg (by simpa using he), if_neg h0, hno]; simp only; rw [if_pos hk]]
  rw [he] at CH
  obtain ⟨V, ⟨h, ks, aa, ca, ak, ck, rfl, hA, hK, hor⟩, hV⟩ := place_any p f v pv w hl hp hpl
  have PV := Lib.hid hV
  clear hV
  have hsz := place_size hno
  have hfs := hs.size
  rw [hno] at hor PV
  obtain ⟨rfl, rfl⟩ : h = hd0 ∧ ks = ks0 := by
    rcases hor with e | ⟨e, -⟩
    · exact Prod.mk.inj (Option.some.inj e.symm)
    · cases e
  unfold aggOf at PV
  simp only [Option.isSome_some] at PV
  have HC := Lib.hid (fun W (hW : Below w.heap.size w W) => copyOf_any _ ks (Nat.le_refl _) (by omega) _ W (lies_below hK hW))
  obtain ⟨a, cap, rfl⟩ := lies_form hl
  obtain ⟨pa, pc, rfl⟩ := ints_form hp
  have e0 : ((p.length : Int) == 0) = false := by simp; exact h0
  have b0 : (h.k != 0) = true := by simpa using hk
  clear hl hp hs he hA hK hor hno h0 hk hsz hfs
  go_enter Tryz.func34, Tryz.ntmps34
  go_wp2_with fail
  refine (CH.out w B0).mono ?_
  rintro e X1 ⟨rfl, hb1⟩
  have B1 := B0.trans (hb1.mono B0.size)
  clear hb1
  go_wp2_with fail
  refine (PV.out X1 B1).mono ?_
  rintro e X2 ⟨rfl, hb2⟩
  have B2 := B1.trans (hb2.mono B1.size)
  clear hb2
  go_upto_region 7 with fail
  have k3 := World.alloc_heap_new X2 (.cells #[.int .i64 h.k, .string ⟨h.l.toArray⟩, .slice aa h.ats.length ca, .int .i64 h.n, .int .i64 h.d, .string ⟨h.x.toArray⟩, .slice ak ks.len ck] 43)
  have B3 : Below w.heap.size w (X2.alloc (.cells #[.int .i64 h.k, .string ⟨h.l.toArray⟩, .slice aa h.ats.length ca, .int .i64 h.n, .int .i64 h.d, .string ⟨h.x.toArray⟩, .slice ak ks.len ck] 43)) := B2.alloc B2.size _
  have hs3 : X2.heap.size < (X2.alloc (.cells #[.int .i64 h.k, .string ⟨h.l.toArray⟩, .slice aa h.ats.length ca, .int .i64 h.n, .int .i64 h.d, .string ⟨h.x.toArray⟩, .slice ak ks.len ck] 43)).heap.size := by simp
  generalize X2.alloc (.cells #[.int .i64 h.k, .string ⟨h.l.toArray⟩, .slice aa h.ats.length ca, .int .i64 h.n, .int .i64 h.d, .string ⟨h.x.toArray⟩, .slice ak ks.len ck] 43) = X3 at *
  have y0 : X3.cell? ⟨X2.heap.size, 0, none⟩ = some (.int .i64 h.k) := cell_of_block k3 rfl
  have y6 : X3.cell? ⟨X2.heap.size, 6, none⟩ = some (.slice ak ks.len ck) := cell_of_block k3 rfl
  clear k3
  go_wp2_with fail
  go_ret2
  exact FoRes.none B3

set_option maxRecDepth 100000 in
set_option maxHeartbeats 4000000 in
theorem qkids_there (f : Fo) (p : List Int) (v pv : Value) (w : World) (hl : Lies w v f) (hs : Small f) (hp : IntsLie w pv p) (hpl : p.length ≤ 1000000) (he : foErr f = 0) (h0 : p ≠ []) (hd0 : Hd) (ks0 : Fo) (hno : placeF f p = some (hd0, ks0)) (hk : hd0.k = 0) :
    Calls Tryz.prog 34 #[v, pv] w (FoRes w (kidsV f p)) := by
  have CH := Lib.hid (fun W (hW : Below w.heap.size w W) => qcheck_any f v W (lies_below hl hW) hs)
  have B0 := Below.refl w.heap.size w
  rw [show kidsV f p = (ks0, 0) by unfold kidsV; rw [if_neg (by simpa using he), if_neg h0, hno]; simp only; rw [if_neg (by simpa using hk)]]
  rw [he] at CH
  obtain ⟨V, ⟨h, ks, aa, ca, ak, ck, rfl, hA, hK, hor⟩, hV⟩ := place_any p f v pv w hl hp hpl
  have PV := Lib.hid hV
  clear hV
  have hsz := place_size hno
  have hfs := hs.size
  rw [hno] at hor PV
  obtain ⟨rfl, rfl⟩ : h = hd0 ∧ ks = ks0 := by
    rcases hor with e | ⟨e, -⟩
    · exact Prod.mk.inj (Option.some.inj e.symm)
    · cases e
  unfold aggOf at PV
  simp only [Option.isSome_some] at PV
  have HC := Lib.hid (fun W (hW : Below w.heap.size w W) => copyOf_any _ ks (Nat.le_refl _) (by omega) _ W (lies_below hK hW))
  obtain ⟨a, cap, rfl⟩ := lies_form hl
  obtain ⟨pa, pc, rfl⟩ := ints_form hp
  have e0 : ((p.length : Int) == 0) = false := by simp; exact h0
  have b0 : (h.k != 0) = false := by simpa using hk
  clear hl hp hs he hA hK hor hno h0 hk hsz hfs
  go_enter Tryz.func34, Tryz.ntmps34
  go_wp2_with fail
  refine (CH.out w B0).mono ?_
  rintro e X1 ⟨rfl, hb1⟩
  have B1 := B0.trans (hb1.mono B0.size)
  clear hb1
  go_wp2_with fail
  refine (PV.out X1 B1).mono ?_
  rintro e X2 ⟨rfl, hb2⟩
  have B2 := B1.trans (hb2.mono B1.size)
  clear hb2
  go_upto_region 7 with fail
  have k3 := World.alloc_heap_new X2 (.cells #[.int .i64 h.k, .string ⟨h.l.toArray⟩, .slice aa h.ats.length ca, .int .i64 h.n, .int .i64 h.d, .string ⟨h.x.toArray⟩, .slice ak ks.len ck] 43)
  have B3 : Below w.heap.size w (X2.alloc (.cells #[.int .i64 h.k, .string ⟨h.l.toArray⟩, .slice aa h.ats.length ca, .int .i64 h.n, .int .i64 h.d, .string ⟨h.x.toArray⟩, .slice ak ks.len ck] 43)) := B2.alloc B2.size _
  have hs3 : X2.heap.size < (X2.alloc (.cells #[.int .i64 h.k, .string ⟨h.l.toArray⟩, .slice aa h.ats.length ca, .int .i64 h.n, .int .i64 h.d, .string ⟨h.x.toArray⟩, .slice ak ks.len ck] 43)).heap.size := by simp
  generalize X2.alloc (.cells #[.int .i64 h.k, .string ⟨h.l.toArray⟩, .slice aa h.ats.length ca, .int .i64 h.n, .int .i64 h.d, .string ⟨h.x.toArray⟩, .slice ak ks.len ck] 43) = X3 at *
  have y0 : X3.cell? ⟨X2.heap.size, 0, none⟩ = some (.int .i64 h.k) := cell_of_block k3 rfl
  have y6 : X3.cell? ⟨X2.heap.size, 6, none⟩ = some (.slice ak ks.len ck) := cell_of_block k3 rfl
  clear k3
  go_wp2_with fail
  refine (HC.out X3 B3).mono ?_
  rintro e X4 ⟨a4, c4, rfl, hL4, hb4⟩
  have HL4 := Lib.hid (liesF_mono (B' := w.heap.size) B3.size hL4)
  have B4 := B3.trans (hb4.mono B3.size)
  clear hL4 hb4
  go_wp2_with fail
  go_ret2
  exact ⟨a4, c4, rfl, HL4.out, B4⟩

theorem qkids_any (f : Fo) (p : List Int) (v pv : Value) (w : World) (hl : Lies w v f) (hs : Small f) (hp : IntsLie w pv p) (hpl : p.length ≤ 1000000) : Calls Tryz.prog 34 #[v, pv] w (FoRes w (kidsV f p)) := by
  by_cases he : foErr f = 0
  · by_cases h0 : p = []
    · exact qkids_nil f p v pv w hl hs hp hpl he h0
    · cases hno : placeF f p with
      | none => exact qkids_absent f p v pv w hl hs hp hpl he h0 hno
      | some x =>
        by_cases hk : x.1.k = 0
        · exact qkids_there f p v pv w hl hs hp hpl he h0 x.1 x.2 hno hk
        · exact qkids_kind f p v pv w hl hs hp hpl he h0 x.1 x.2 hno hk
  · exact qkids_bad f p v pv w hl hs hp hpl he

/-! package tree -/
def forestV (f : Fo) (p : List Int) : Fo × Int :=
  if p = [] then (f, 0) else match placeF f p with
    | none => (.nil, 6)
    | some (h, ks) => if h.k ≠ 0 then (.nil, 9) else (ks, 0)
def FoLie (w : World) (r : Fo × Int) (e : Ending) (w' : World) : Prop :=
  ∃ a cap, e = .returned (.tuple #[.slice a r.1.len cap, .int .i64 r.2]) ∧ Lies w (.slice a r.1.len cap) r.1 ∧ Below w.heap.size w w'
set_option maxRecDepth 100000 in
set_option maxHeartbeats 4000000 in
theorem forestAt_nil (f : Fo) (v : Value) (a : Option Addr) (c : Nat) (w : World) (hl : Lies w v f) : Calls Tryz.prog 96 #[v, .slice a 0 c] w (FoLie w (f, 0)) := by
  have HL := Lib.hid hl
  obtain ⟨a, cap, rfl⟩ := lies_form hl
  clear hl
  go_enter Tryz.func96, Tryz.ntmps96
  go_wp2_with fail
  go_ret2
  exact ⟨a, cap, rfl, HL.out, Below.refl _ _⟩

set_option maxRecDepth 100000 in
set_option maxHeartbeats 4000000 in
theorem forestAt_absent (f : Fo) (p : List Int) (v pv : Value) (w : World) (hl : Lies w v f) (hp : IntsLie w pv p) (hpl : p.length ≤ 1000000) (h0 : p ≠ []) (hno : placeF f p = none) : Calls Tryz.prog 96 #[v, pv] w (FoLie w (.nil, 6)) := by
  have TA := Lib.hid (treeAt_any f p v pv w hl hp hpl)
  rw [hno] at TA
  obtain ⟨a, cap, rfl⟩ := lies_form hl
  obtain ⟨pa, pc, rfl⟩ := ints_form hp
  have e0 : ((p.length : Int) == 0) = false := by simp; exact h0
  clear hl hp hno h0
  go_enter Tryz.func96, Tryz.ntmps96
  go_wp2_with fail
  refine TA.out.mono ?_
  rintro e X2 ⟨h, ks, aa, ca, ak, ck, rfl, hA, hK, hor, B2⟩
  clear hA hK hor
  unfold aggOf
  go_upto_region 4 with fail
  have k3 := World.alloc_heap_new X2 (.cells #[.int .i64 h.k, .string ⟨h.l.toArray⟩, .slice aa h.ats.length ca, .int .i64 h.n, .int .i64 h.d, .string ⟨h.x.toArray⟩, .slice ak ks.len ck] 43)
  have B3 : Below w.heap.size w (X2.alloc (.cells #[.int .i64 h.k, .string ⟨h.l.toArray⟩, .slice aa h.ats.length ca, .int .i64 h.n, .int .i64 h.d, .string ⟨h.x.toArray⟩, .slice ak ks.len ck] 43)) := B2.alloc B2.size _
  have hs3 : X2.heap.size < (X2.alloc (.cells #[.int .i64 h.k, .string ⟨h.l.toArray⟩, .slice aa h.ats.length ca, .int .i64 h.n, .int .i64 h.d, .string ⟨h.x.toArray⟩, .slice ak ks.len ck] 43)).heap.size := by simp
  generalize X2.alloc (.cells #[.int .i64 h.k, .string ⟨h.l.toArray⟩, .slice aa h.ats.length ca, .int .i64 h.n, .int .i64 h.d, .string ⟨h.x.toArray⟩, .slice ak ks.len ck] 43) = X3 at *
  clear k3
  go_wp2_with fail
  go_ret2
  exact ⟨none, 0, rfl, .inl ⟨_, _, rfl, rfl⟩, B3⟩

set_option maxRecDepth 100000 in
set_option maxHeartbeats 4000000 in
theorem forestAt_kind (f : Fo) (p : List Int) (v pv : Value) (w : World) (hl : Lies w v f) (hp : IntsLie w pv p) (hpl : p.length ≤ 1000000) (h0 : p ≠ []) (hd0 : Hd) (ks0 : Fo) (hno : placeF f p = some (hd0, ks0)) (hk : hd0.k ≠ 0) : Calls Tryz.prog 96 #[v, pv] w (FoLie w (.nil, 9)) := by
  have TA := Lib.hid (treeAt_any f p v pv w hl hp hpl)
  rw [hno] at TA
  obtain ⟨a, cap, rfl⟩ := lies_form hl
  obtain ⟨pa, pc, rfl⟩ := ints_form hp
  have e0 : ((p.length : Int) == 0) = false := by simp; exact h0
  clear hl hp hno h0
  go_enter Tryz.func96, Tryz.ntmps96
  go_wp2_with fail
  refine TA.out.mono ?_
  rintro e X2 ⟨h, ks, aa, ca, ak, ck, rfl, hA, hK, hor, B2⟩
  obtain ⟨rfl, rfl⟩ : h = hd0 ∧ ks = ks0 := by
    rcases hor with e | ⟨e, -⟩
    · exact Prod.mk.inj (Option.some.inj e.symm)
    · cases e
  have HK := Lib.hid hK
  have b0 : (h.k != 0) = true := by simpa using hk
  clear hk
  clear hA hK hor
  unfold aggOf
  go_upto_region 4 with fail
  have k3 := World.alloc_heap_new X2 (.cells #[.int .i64 h.k, .string ⟨h.l.toArray⟩, .slice aa h.ats.length ca, .int .i64 h.n, .int .i64 h.d, .string ⟨h.x.toArray⟩, .slice ak ks.len ck] 43)
  have B3 : Below w.heap.size w (X2.alloc (.cells #[.int .i64 h.k, .string ⟨h.l.toArray⟩, .slice aa h.ats.length ca, .int .i64 h.n, .int .i64 h.d, .string ⟨h.x.toArray⟩, .slice ak ks.len ck] 43)) := B2.alloc B2.size _
  have hs3 : X2.heap.size < (X2.alloc (.cells #[.int .i64 h.k, .string ⟨h.l.toArray⟩, .slice aa h.ats.length ca, .int .i64 h.n, .int .i64 h.d, .string ⟨h.x.toArray⟩, .slice ak ks.len ck] 43)).heap.size := by simp
  generalize X2.alloc (.cells #[.int .i64 h.k, .string ⟨h.l.toArray⟩, .slice aa h.ats.length ca, .int .i64 h.n, .int .i64 h.d, .string ⟨h.x.toArray⟩, .slice ak ks.len ck] 43) = X3 at *
  have y0 : X3.cell? ⟨X2.heap.size, 0, none⟩ = some (.int .i64 h.k) := cell_of_block k3 rfl
  have y6 : X3.cell? ⟨X2.heap.size, 6, none⟩ = some (.slice ak ks.len ck) := cell_of_block k3 rfl
  clear k3
  go_wp2_with fail
  go_ret2
  exact ⟨none, 0, rfl, .inl ⟨_, _, rfl, rfl⟩, B3⟩

set_option maxRecDepth 100000 in
set_option maxHeartbeats 4000000 in
theorem forestAt_there (f : Fo) (p : List Int) (v pv : Value) (w : World) (hl : Lies w v f) (hp : IntsLie w pv p) (hpl : p.length ≤ 1000000) (h0 : p ≠ []) (hd0 : Hd) (ks0 : Fo) (hno : placeF f p = some (hd0, ks0)) (hk : hd0.k = 0) : Calls Tryz.prog 96 #[v, pv] w (FoLie w (ks0, 0)) := by
  have TA := Lib.hid (treeAt_any f p v pv w hl hp hpl)
  rw [hno] at TA
  obtain ⟨a, cap, rfl⟩ := lies_form hl
  obtain ⟨pa, pc, rfl⟩ := ints_form hp
  have e0 : ((p.length : Int) == 0) = false := by simp; exact h0
  clear hl hp hno h0
  go_enter Tryz.func96, Tryz.ntmps96
  go_wp2_with fail
  refine TA.out.mono ?_
  rintro e X2 ⟨h, ks, aa, ca, ak, ck, rfl, hA, hK, hor, B2⟩
  obtain ⟨rfl, rfl⟩ : h = hd0 ∧ ks = ks0 := by
    rcases hor with e | ⟨e, -⟩
    · exact Prod.mk.inj (Option.some.inj e.symm)
    · cases e
  have HK := Lib.hid hK
  have b0 : (h.k != 0) = false := by simpa using hk
  clear hk
  clear hA hK hor
  unfold aggOf
  go_upto_region 4 with fail
  have k3 := World.alloc_heap_new X2 (.cells #[.int .i64 h.k, .string ⟨h.l.toArray⟩, .slice aa h.ats.length ca, .int .i64 h.n, .int .i64 h.d, .string ⟨h.x.toArray⟩, .slice ak ks.len ck] 43)
  have B3 : Below w.heap.size w (X2.alloc (.cells #[.int .i64 h.k, .string ⟨h.l.toArray⟩, .slice aa h.ats.length ca, .int .i64 h.n, .int .i64 h.d, .string ⟨h.x.toArray⟩, .slice ak ks.len ck] 43)) := B2.alloc B2.size _
  have hs3 : X2.heap.size < (X2.alloc (.cells #[.int .i64 h.k, .string ⟨h.l.toArray⟩, .slice aa h.ats.length ca, .int .i64 h.n, .int .i64 h.d, .string ⟨h.x.toArray⟩, .slice ak ks.len ck] 43)).heap.size := by simp
  generalize X2.alloc (.cells #[.int .i64 h.k, .string ⟨h.l.toArray⟩, .slice aa h.ats.length ca, .int .i64 h.n, .int .i64 h.d, .string ⟨h.x.toArray⟩, .slice ak ks.len ck] 43) = X3 at *
  have y0 : X3.cell? ⟨X2.heap.size, 0, none⟩ = some (.int .i64 h.k) := cell_of_block k3 rfl
  have y6 : X3.cell? ⟨X2.heap.size, 6, none⟩ = some (.slice ak ks.len ck) := cell_of_block k3 rfl
  clear k3
  go_wp2_with fail
  go_ret2
  exact ⟨ak, ck, rfl, HK.out, B3⟩

theorem forestAt_any (f : Fo) (p : List Int) (v pv : Value) (w : World) (hl : Lies w v f) (hp : IntsLie w pv p) (hpl : p.length ≤ 1000000) : Calls Tryz.prog 96 #[v, pv] w (FoLie w (forestV f p)) := by
  by_cases h0 : p = []
  · rw [show forestV f p = (f, 0) by unfold forestV; rw [if_pos h0]]
    subst h0
    obtain ⟨a, c, rfl⟩ := ints_form hp
    exact forestAt_nil f v a c w hl
  · cases hno : placeF f p with
    | none =>
      rw [show forestV f p = (.nil, 6) by unfold forestV; rw [if_neg h0, hno]]
      exact forestAt_absent f p v pv w hl hp hpl h0 hno
    | some x =>
      by_cases hk : x.1.k = 0
      · rw [show forestV f p = (x.2, 0) by unfold forestV; rw [if_neg h0, hno]; simp only; rw [if_neg (by simpa using hk)]]
        exact forestAt_there f p v pv w hl hp hpl h0 x.1 x.2 hno hk
      · rw [show forestV f p = (.nil, 9) by unfold forestV; rw [if_neg h0, hno]; simp only; rw [if_pos hk]]
        exact forestAt_kind f p v pv w hl hp hpl h0 x.1 x.2 hno hk
end Go.Proofs.YtcgedpfolloinaaGreat

namespace Go.Proofs.YtcgedpfolloinaaGreat
open Go.RowKit

/-- a forest from the other side. -/
def turnF : Fo → Fo
  | .nil => .nil
  | .cons h ks r => (turnF r).app (.cons h (turnF ks) .nil)
theorem turn_len : ∀ f : Fo, (turnF f).len = f.len
  | .nil => rfl
  | .cons h ks r => by simp only [turnF, app_len, Fo.len, turn_len r]
set_option maxRecDepth 100000 in
set_option maxHeartbeats 8000000 in
theorem turned_of (f : Fo) (v : Value) (w : World) (hl : Lies w v f) (hln : f.len ≤ 1000000)
    (HT : ∀ hd ks, (∃ j, j < f.len ∧ f.drop j = .cons hd ks (f.drop (j + 1))) → ∀ v w, Lies w v ks → Calls Tryz.prog 113 #[v] w (CloneRes w (turnF ks))) :
    Calls Tryz.prog 113 #[v] w (CloneRes w (turnF f)) := by
  obtain ⟨i0, hi, hz0, hz1, hz2⟩ := info_parts info_tree
  have hlen := lies_len hl
  have HL := Lib.hid hl
  have HT' := Lib.hid HT
  obtain ⟨av, cv, rfl⟩ := lies_form hl
  clear hl HT
  go_enter Tryz.func113, Tryz.ntmps113
  go_wp2_with fail
  go_loopw [3, 4] (fun v3 i wr => ∃ (m k g : Nat) (a : Option Addr) (cap : Nat) (cs : List Value), i = .int .i64 ((m : Int) - 1) ∧ m ≤ f.len ∧ k = f.len - m ∧ v3 = .slice a k cap ∧ (∀ b, (Value.slice a k cap).ownBlock = some b → b = g) ∧ wr.ownsRow w.heap.size 43 7 (.slice a k cap) k cs ∧ Stab w.heap.size g wr (turnF (f.drop m)) cs ∧ Below w.heap.size w wr) (fun _ i _ => (intOf i + 1).toNat)
  case atStart =>
    refine ⟨f.len, 0, 0, none, 0, [], rfl, Nat.le_refl _, by omega, rfl, fun b hb => by simp [Value.ownBlock] at hb, ⟨rfl, .inl ⟨rfl, rfl⟩⟩, ?_, Below.refl _ _⟩
    intro W _ _
    rw [Fo.drop_ge _ _ (Nat.le_refl _)]; rfl
  case round =>
    obtain ⟨m, k, g, a, cap, cs, rfl, hm, hkm, rfl, hg, hown, hst, hbw⟩ := hrel
    have hk2 : k + m ≤ f.len := by omega
    have hk3 : f.len ≤ k + m := by omega
    clear hkm
    have hsw := hbw.size
    have HOWN := Lib.hid hown
    have HST := Lib.hid hst
    have HG := Lib.hid hg
    have hgl := Lib.hid (fun b (hb : (Value.slice a k cap).ownBlock = some b) => hown.lt b hb)
    clear hown hst hg
    by_cases h0 : 0 < m
    · obtain ⟨j, rfl⟩ : ∃ j, m = j + 1 := ⟨m - 1, by omega⟩
      have hlt : j < f.len := by omega
      have hk1 : k + 1 ≤ f.len := by omega
      have ei : (((j + 1 : Nat) : Int) - 1) = (j : Int) := by omega
      rw [ei]
      obtain ⟨b, o, cap0, hs, hcap, -, hb, hrow⟩ := lies_row HL.out (by omega)
      simp only [Value.slice.injEq] at hs
      obtain ⟨rfl, -, rfl⟩ := hs
      obtain ⟨hd, ks, e, ⟨q0, q1, ⟨va, q2, ha'⟩, q3, q4, q5⟩, vk, q6, hlk⟩ := row_get hrow hlt
      obtain ⟨aa, ca, rfl⟩ := attrs_form ha'
      obtain ⟨ak, ck, rfl⟩ := lies_form hlk
      have r0 := (hbw.cell (p := ⟨b, o + j * 7, none⟩) hb).trans q0
      have r1 := (hbw.cell (p := ⟨b, o + j * 7 + 1, none⟩) hb).trans q1
      have r2 := (hbw.cell (p := ⟨b, o + j * 7 + 2, none⟩) hb).trans q2
      have r3 := (hbw.cell (p := ⟨b, o + j * 7 + 3, none⟩) hb).trans q3
      have r4 := (hbw.cell (p := ⟨b, o + j * 7 + 4, none⟩) hb).trans q4
      have r5 := (hbw.cell (p := ⟨b, o + j * 7 + 5, none⟩) hb).trans q5
      have r6 := (hbw.cell (p := ⟨b, o + j * 7 + 6, none⟩) hb).trans q6
      have hbr : b < wr.heap.size := by omega
      have HA := Lib.hid (fun W (hW : Below w.heap.size w W) => attrsOf_any _ _ W (attrs_below ha' hW))
      have HC := Lib.hid (fun W (hW : Below w.heap.size w W) => HT'.out hd ks ⟨j, hlt, e⟩ _ W (lies_below hlk hW))
      have HE := Lib.hid e
      clear q0 q1 q2 q3 q4 q5 q6 ha' hlk e hrow HT'
      go_upto_region 6 with fail
      have k1 := World.alloc_heap_new wr (.cells #[.int .i64 hd.k, .string ⟨hd.l.toArray⟩, .slice aa hd.ats.length ca, .int .i64 hd.n, .int .i64 hd.d, .string ⟨hd.x.toArray⟩, .slice ak ks.len ck] 43)
      have BW1 : Below wr.heap.size wr (wr.alloc (.cells #[.int .i64 hd.k, .string ⟨hd.l.toArray⟩, .slice aa hd.ats.length ca, .int .i64 hd.n, .int .i64 hd.d, .string ⟨hd.x.toArray⟩, .slice ak ks.len ck] 43)) := (Below.refl _ _).alloc (Nat.le_refl _) _
      have hs1 : (wr.alloc (.cells #[.int .i64 hd.k, .string ⟨hd.l.toArray⟩, .slice aa hd.ats.length ca, .int .i64 hd.n, .int .i64 hd.d, .string ⟨hd.x.toArray⟩, .slice ak ks.len ck] 43)).heap.size = wr.heap.size + 1 := by simp
      generalize wr.alloc (.cells #[.int .i64 hd.k, .string ⟨hd.l.toArray⟩, .slice aa hd.ats.length ca, .int .i64 hd.n, .int .i64 hd.d, .string ⟨hd.x.toArray⟩, .slice ak ks.len ck] 43) = X1 at *
      have BX1 := hbw.trans (BW1.mono hsw)
      have KT1 := Lib.hid k1
      have d2 : X1.cell? ⟨wr.heap.size, 2, none⟩ = some (.slice aa hd.ats.length ca) := cell_of_block k1 rfl
      have HS1 := Lib.hid hs1
      have hz1' : wr.heap.size < X1.heap.size := by omega
      clear k1 r0 r1 r2 r3 r4 r5 r6 hs1
      go_wp2_with fail
      refine (HA.out X1 BX1).mono ?_
      rintro e X2 ⟨a2, c2, rfl, hA2, hb2⟩
      have BW2 := BW1.trans (hb2.mono BW1.size)
      have k2 := (hb2.block _ hz1').trans KT1.out
      have hz2' : wr.heap.size < X2.heap.size := Nat.lt_of_lt_of_le hz1' hb2.size
      have f2 := frozen_of_block (o := 2) k2
      have d2' : X2.cell? ⟨wr.heap.size, 2, none⟩ = some (.slice aa hd.ats.length ca) := cell_of_block k2 rfl
      have KT2 := Lib.hid k2
      have HA2 := Lib.hid (attrsF_mono (B' := wr.heap.size + 1) (by rw [HS1.out]; omega) hA2)
      clear d2 k2 hb2 hA2
      go_upto_region 7 with fail
      have k3 : (X2.setCell ⟨wr.heap.size, 2, none⟩ (.slice a2 hd.ats.length c2)).heap[wr.heap.size]? = some (.cells #[.int .i64 hd.k, .string ⟨hd.l.toArray⟩, .slice a2 hd.ats.length c2, .int .i64 hd.n, .int .i64 hd.d, .string ⟨hd.x.toArray⟩, .slice ak ks.len ck] 43) := set_block KT2.out
      have BW3 : Below wr.heap.size wr (X2.setCell ⟨wr.heap.size, 2, none⟩ (.slice a2 hd.ats.length c2)) := BW2.setCell (Nat.le_refl _) _
      have hz3' : wr.heap.size < (X2.setCell ⟨wr.heap.size, 2, none⟩ (.slice a2 hd.ats.length c2)).heap.size := by rw [set_size']; exact hz2'
      have HA3 := Lib.hid (attrsF_keeps HA2.out (Keeps.setCell (B := wr.heap.size + 1) X2 (b := wr.heap.size) (by omega) 2 (.slice a2 hd.ats.length c2)))
      generalize X2.setCell ⟨wr.heap.size, 2, none⟩ (.slice a2 hd.ats.length c2) = X3 at *
      have BX3 := hbw.trans (BW3.mono hsw)
      have d6 : X3.cell? ⟨wr.heap.size, 6, none⟩ = some (.slice ak ks.len ck) := cell_of_block k3 rfl
      have KT3 := Lib.hid k3
      clear k3 d2' f2 KT1 KT2 HA2 BW1 BW2 BX1
      go_wp2_with fail
      refine (HC.out X3 BX3).mono ?_
      rintro e X4 ⟨a4, c4, rfl, hL4, hb4⟩
      have BW4 := BW3.trans (hb4.mono BW3.size)
      have k4 := (hb4.block _ hz3').trans KT3.out
      have hz4' : wr.heap.size < X4.heap.size := Nat.lt_of_lt_of_le hz3' hb4.size
      have f6 := frozen_of_block (o := 6) k4
      have d6' : X4.cell? ⟨wr.heap.size, 6, none⟩ = some (.slice ak ks.len ck) := cell_of_block k4 rfl
      have KT4 := Lib.hid k4
      have HA4 := Lib.hid (attrsF_keeps HA3.out (Keeps.of_below (B := wr.heap.size + 1) hb4))
      have HL4 := Lib.hid (liesF_mono (B' := wr.heap.size + 1) (by omega) hL4)
      clear d6 k4 hb4 hL4
      go_upto_region 8 with fail
      have k5 : (X4.setCell ⟨wr.heap.size, 6, none⟩ (.slice a4 (turnF ks).len c4)).heap[wr.heap.size]? = some (.cells #[.int .i64 hd.k, .string ⟨hd.l.toArray⟩, .slice a2 hd.ats.length c2, .int .i64 hd.n, .int .i64 hd.d, .string ⟨hd.x.toArray⟩, .slice a4 (turnF ks).len c4] 43) := set_block KT4.out
      have BW5 : Below wr.heap.size wr (X4.setCell ⟨wr.heap.size, 6, none⟩ (.slice a4 (turnF ks).len c4)) := BW4.setCell (Nat.le_refl _) _
      have hz5' : wr.heap.size < (X4.setCell ⟨wr.heap.size, 6, none⟩ (.slice a4 (turnF ks).len c4)).heap.size := by rw [set_size']; exact hz4'
      have HK5 := Keeps.setCell (B := wr.heap.size + 1) X4 (b := wr.heap.size) (by omega) 6 (.slice a4 (turnF ks).len c4)
      have HA5 := Lib.hid (attrsF_keeps HA4.out HK5)
      have HL5 := Lib.hid (liesF_keeps HL4.out HK5)
      clear HK5
      generalize X4.setCell ⟨wr.heap.size, 6, none⟩ (.slice a4 (turnF ks).len c4) = X5 at *
      have BX5 := hbw.trans (BW5.mono hsw)
      have d0 : X5.cell? ⟨wr.heap.size, 0, none⟩ = some (.int .i64 hd.k) := cell_of_block k5 rfl
      have d1 : X5.cell? ⟨wr.heap.size, 1, none⟩ = some (.string ⟨hd.l.toArray⟩) := cell_of_block k5 rfl
      have d2 : X5.cell? ⟨wr.heap.size, 2, none⟩ = some (.slice a2 hd.ats.length c2) := cell_of_block k5 rfl
      have d3 : X5.cell? ⟨wr.heap.size, 3, none⟩ = some (.int .i64 hd.n) := cell_of_block k5 rfl
      have d4 : X5.cell? ⟨wr.heap.size, 4, none⟩ = some (.int .i64 hd.d) := cell_of_block k5 rfl
      have d5 : X5.cell? ⟨wr.heap.size, 5, none⟩ = some (.string ⟨hd.x.toArray⟩) := cell_of_block k5 rfl
      have d6 : X5.cell? ⟨wr.heap.size, 6, none⟩ = some (.slice a4 (turnF ks).len c4) := cell_of_block k5 rfl
      have O5 := Lib.hid (owns_belowV HOWN.out BW5)
      have hnew := World.alloc_heap_new X5 (.cells #[.int .i64 hd.k, .string ⟨hd.l.toArray⟩, .slice a2 hd.ats.length c2, .int .i64 hd.n, .int .i64 hd.d, .string ⟨hd.x.toArray⟩, .slice a4 (turnF ks).len c4] 43)
      have hbx5 := BX5.size
      clear k5 d6' f6 KT3 KT4 HA3 HA4 HL4 BW3 BW4 BX3
      go_wp2_with (at_builtin; refine wpList_append_own_at _ rfl _ _ 28 rfl w.heap.size 43 i0 _ 7 104 Tryz.underlying28 hi hz0 hz1 hz2 rfl (by decide) _ k cs rfl (O5.out.alloc _) ⟨X5.heap.size, 0, none⟩ 1 1 (treeCells hd a2 c2 a4 (turnF ks).len c4) rfl rfl ?c1 ?c2 ?c3 ?c4 ?c5 ?stop)
      case c1 =>
        intro j u hj
        rw [Go.WideShapes.add_plain]
        exact cell_of_block hnew (by simpa [treeCells] using hj)
      case c2 => intro u hu; simp [treeCells] at hu; rcases hu with rfl | rfl | rfl | rfl | rfl | rfl | rfl <;> rfl
      case c3 => unfold maxLen; omega
      case c4 => omega
      case c5 => simp; omega
      case stop =>
        intro v' w6 hown' hgrow _ hat
        obtain ⟨g', cap', rfl⟩ : ∃ g cap, v' = .slice (some ⟨g, 0, none⟩) (k + 1) cap := by
          rcases hown'.2 with ⟨_, h0⟩ | ⟨g, cap, cur, hv, _⟩
          · omega
          · exact ⟨g, cap, hv⟩
        have hat2 : g' = g ∨ g' = X5.heap.size + 1 := by
          rcases hat with h | h
          · exact .inl (HG.out g' (h.symm.trans rfl))
          · exact .inr (by simpa [Value.ownBlock] using h)
        have hs6 := hgrow.size
        simp at hs6
        have hw5 := BW5.size
        have hcell : ∀ W : World, w6.heap.size ≤ W.heap.size → (∀ k o, w.heap.size ≤ k → k < w6.heap.size → k ≠ g' → W.cell? ⟨k, o, none⟩ = w6.cell? ⟨k, o, none⟩) → ∀ k' o, w.heap.size ≤ k' → k' < X5.heap.size → (∀ j, (Value.slice a k cap).ownBlock = some j → k' ≠ j) → W.cell? ⟨k', o, none⟩ = X5.cell? ⟨k', o, none⟩ := by
          intro W hW hc k' o' h1 h2 h3
          refine (hc k' o' h1 (by omega) ?_).trans (World.cell?_of_block ?_)
          · rcases hat with h | h
            · exact h3 g' (h.symm.trans rfl)
            · have : g' = X5.heap.size + 1 := by simpa [Value.ownBlock] using h
              omega
          · rw [hgrow.block k' (by simp; omega) (by intro h; exact h3 k' h.symm rfl), Below.heap_alloc _ _ k' h2]
        have S6 := Lib.hid (show Stab w.heap.size g' w6 (turnF (f.drop j)) (cs ++ treeCells hd a2 c2 a4 (turnF ks).len c4) by
          rw [HE.out, turnF]
          intro W hW hc
          have hcc := hcell W hW hc
          have hk : Keeps (wr.heap.size + 1) X5 W := ⟨by omega, fun k' o' h1 h2 => hcc k' o' (by omega) h2 (fun j hj => by have := (hgl.out j hj).2; omega)⟩
          exact rowL_snoc (attrsF_mono (by omega) (attrsF_keeps HA5.out hk)) (liesF_mono (by omega) (liesF_keeps HL5.out hk)) (turnF (f.drop (j + 1))) cs (HST.out W (by omega) fun k' o' h1 h2 h3 => (hcc k' o' h1 (by omega) (fun j hj => by rw [HG.out j hj]; exact h3)).trans ((bcell BW5).1 k' o' h2)))
        have O6 := Lib.hid hown'
        have B6 := Lib.hid ((BX5.alloc hbx5 (.cells #[.int .i64 hd.k, .string ⟨hd.l.toArray⟩, .slice a2 hd.ats.length c2, .int .i64 hd.n, .int .i64 hd.d, .string ⟨hd.x.toArray⟩, .slice a4 (turnF ks).len c4] 43)).grown hgrow (by simp; omega) (fun k hk => (hgl.out k hk).1))
        clear hown' hgrow hat hat2 hcell hnew d0 d1 d2 d3 d4 d5 d6
        go_wp2_with fail
        go_roundw
        case rel => exact ⟨j, k + 1, g', some ⟨g', 0, none⟩, cap', _, by go_num, by omega, by omega, rfl, fun b hb => by simpa [Value.ownBlock] using hb.symm, O6.out, S6.out, B6.out⟩
        case measure => simp [intOf]
    · obtain rfl : m = 0 := by omega
      obtain rfl : k = f.len := by omega
      have ei : (((0 : Nat) : Int) - 1) = -1 := rfl
      rw [ei]
      have HF := Lib.hid (show LiesF w.heap.size wr (.slice a (turnF f).len cap) (turnF f) by
        have hrow := HST.out wr (Nat.le_refl _) (fun _ _ _ _ _ => rfl)
        rw [show f.drop 0 = f by cases f <;> rfl] at hrow
        rw [turn_len]
        rcases HOWN.out.2 with ⟨h3, h4⟩ | ⟨g1, cap1, cur, h3, hb1, hg1, hn1, hc1, _, _⟩
        · exact .inl ⟨none, 0, by simpa [h4] using h3, Fo.len_nil (by rw [turn_len]; exact h4)⟩
        · have hgl2 := (hgl.out g1 (by rw [h3]; rfl)).2
          have hcs := HOWN.out.cells (g := g1) (by rw [h3]; rfl)
          simp only [Value.slice.injEq] at h3
          obtain ⟨rfl, -, rfl⟩ := h3
          exact .inr ⟨g1, 0, cap, by rw [turn_len], by rw [turn_len]; exact hn1, by rw [turn_len]; omega, hb1, hgl2, rowL_row _ cs 0 hrow fun j u hj => by
            have := hcs j u hj
            rw [Go.WideShapes.add_plain] at this
            simpa using this⟩)
      rw [turn_len] at HF
      go_wp2_with fail
      go_ret
      exact ⟨a, cap, by rw [turn_len]; rfl, by rw [turn_len]; exact HF.out, hbw⟩

/-- Turned gives the turned forest in memory of its own. -/
theorem turned_any : ∀ (N : Nat) (f : Fo), f.size ≤ N → f.size ≤ 1000000 → ∀ (v : Value) (w : World), Lies w v f → Calls Tryz.prog 113 #[v] w (CloneRes w (turnF f)) := by
  intro N
  induction N with
  | zero =>
    intro f hf h1 v w hl
    exact turned_of f v w hl (by have := Fo.len_le_size f; omega) (fun h ks ⟨j, hj, _⟩ => by have := Fo.len_le_size f; omega)
  | succ N ih =>
    intro f hf h1 v w hl
    refine turned_of f v w hl (by have := Fo.len_le_size f; omega) (fun hd ks ⟨j, hj, e⟩ v w hk => ?_)
    have := kid_size e
    exact ih ks (by omega) (by omega) v w hk

def turnV (f : Fo) : Fo × Int := if foErr f = 0 then (turnF f, 0) else (.nil, foErr f)
set_option maxRecDepth 100000 in
set_option maxHeartbeats 2000000 in
theorem qturn_any (f : Fo) (v : Value) (w : World) (hl : Lies w v f) (hs : Small f) : Calls Tryz.prog 55 #[v] w (FoRes w (turnV f)) := by
  have CH := Lib.hid (qcheck_any f v w hl hs)
  have hfs := hs.size
  have TU := Lib.hid (fun W (hW : Below w.heap.size w W) => turned_any _ f (Nat.le_refl _) (by omega) v W (lies_below hl hW))
  obtain ⟨a, cap, rfl⟩ := lies_form hl
  clear hl hs
  by_cases h0 : foErr f = 0
  · rw [show turnV f = (turnF f, 0) by unfold turnV; rw [if_pos h0]]
    rw [h0] at CH
    clear h0
    go_enter Tryz.func55, Tryz.ntmps55
    go_wp2_with fail
    refine CH.out.mono ?_
    rintro e X1 ⟨rfl, B1⟩
    go_wp2_with fail
    refine (TU.out X1 B1).mono ?_
    rintro e X2 ⟨a2, c2, rfl, hL2, hb2⟩
    have HL2 := Lib.hid (liesF_mono (B' := w.heap.size) B1.size hL2)
    have B2 := B1.trans (hb2.mono B1.size)
    clear hL2 hb2
    go_wp2_with fail
    go_ret2
    exact ⟨a2, c2, rfl, HL2.out, B2⟩
  · rw [show turnV f = (.nil, foErr f) by unfold turnV; rw [if_neg h0]]
    have b0 : (foErr f != 0) = true := by simpa using h0
    generalize foErr f = ee at *
    clear h0
    go_enter Tryz.func55, Tryz.ntmps55
    go_wp2_with fail
    refine CH.out.mono ?_
    rintro e X1 ⟨rfl, B1⟩
    go_wp2_with fail
    go_ret2
    exact FoRes.none B1
end Go.Proofs.YtcgedpfolloinaaGreat

namespace Go.Proofs.YtcgedpfolloinaaGreat
open Go.RowKit

/-- tree number j. -/
def nth : Fo → Nat → Option (Hd × Fo)
  | .nil, _ => none
  | .cons h ks _, 0 => some (h, ks)
  | .cons _ _ r, j + 1 => nth r j
theorem nth_drop : ∀ {f : Fo} {j : Nat} {h : Hd} {ks r : Fo}, f.drop j = .cons h ks r → nth f j = some (h, ks)
  | .nil, j, h, ks, r, e => by rw [Fo.drop_nil] at e; cases e
  | .cons _ _ _, 0, h, ks, r, e => by cases e; rfl
  | .cons _ _ r0, j + 1, h, ks, r, e => nth_drop (f := r0) e
theorem drop_nth : ∀ {f : Fo} {j : Nat} {h : Hd} {ks : Fo}, nth f j = some (h, ks) → f.drop j = .cons h ks (f.drop (j + 1))
  | .nil, j, h, ks, e => by cases e
  | .cons _ _ r0, 0, h, ks, e => by
    simp only [nth, Option.some.injEq, Prod.mk.injEq] at e
    obtain ⟨rfl, rfl⟩ := e
    cases r0 <;> rfl
  | .cons _ _ r0, j + 1, h, ks, e => drop_nth (f := r0) e
theorem nth_lt : ∀ {f : Fo} {j : Nat} {x : Hd × Fo}, nth f j = some x → j < f.len
  | .nil, j, x, e => by cases e
  | .cons _ _ r, 0, x, e => by simp [Fo.len]
  | .cons _ _ r, j + 1, x, e => by have := nth_lt (f := r) e; simp [Fo.len]; omega
theorem nth_some : ∀ {f : Fo} {j : Nat}, j < f.len → ∃ h ks, nth f j = some (h, ks)
  | .nil, j, h => by simp [Fo.len] at h
  | .cons h ks _, 0, _ => ⟨h, ks, rfl⟩
  | .cons _ _ r, j + 1, h => nth_some (f := r) (by simp [Fo.len] at h; omega)
theorem nth_none : ∀ {f : Fo} {j : Nat}, f.len ≤ j → nth f j = none
  | .nil, _, _ => rfl
  | .cons _ _ _, 0, h => by simp [Fo.len] at h
  | .cons _ _ r, j + 1, h => nth_none (f := r) (by simp [Fo.len] at h; omega)
theorem fo_ext : ∀ {f g : Fo}, (∀ j, nth f j = nth g j) → f = g
  | .nil, .nil, _ => rfl
  | .nil, .cons _ _ _, h => by have := h 0; cases this
  | .cons _ _ _, .nil, h => by have := h 0; cases this
  | .cons h ks r, .cons h' ks' r', e => by
    have e0 := e 0
    simp only [nth, Option.some.injEq, Prod.mk.injEq] at e0
    obtain ⟨rfl, rfl⟩ := e0
    rw [fo_ext (f := r) (g := r') fun j => e (j + 1)]
theorem nth_app : ∀ (f g : Fo) (j : Nat), nth (f.app g) j = if j < f.len then nth f j else nth g (j - f.len)
  | .nil, g, j => by simp [Fo.app, Fo.len]
  | .cons h ks r, g, 0 => by simp [Fo.app, Fo.len, nth]
  | .cons h ks r, g, j + 1 => by simp [Fo.app, Fo.len, nth, nth_app r g j]
/-- the trees in the other order, their kids as they are. -/
def revF : Fo → Fo
  | .nil => .nil
  | .cons h ks r => (revF r).app (.cons h ks .nil)
theorem rev_len : ∀ f : Fo, (revF f).len = f.len
  | .nil => rfl
  | .cons h ks r => by simp only [revF, app_len, Fo.len, rev_len r]
theorem nth_rev : ∀ (f : Fo) (j : Nat), j < f.len → nth (revF f) j = nth f (f.len - 1 - j)
  | .nil, j, h => by simp [Fo.len] at h
  | .cons h ks r, j, hj => by
    simp only [Fo.len] at hj
    rw [revF, nth_app, rev_len]
    by_cases hlt : j < r.len
    · rw [if_pos hlt, nth_rev r j hlt]
      simp only [Fo.len]
      rw [show r.len + 1 - 1 - j = (r.len - 1 - j) + 1 by omega]; rfl
    · rw [if_neg hlt]
      simp only [Fo.len]
      rw [show j - r.len = 0 by omega, show r.len + 1 - 1 - j = 0 by omega]; rfl
/-- the first k trees have their kids turned. -/
def turnTo : Nat → Fo → Fo
  | _, .nil => .nil
  | 0, f => f
  | k + 1, .cons h ks r => .cons h (turnF ks) (turnTo k r)
theorem turnTo_zero (f : Fo) : turnTo 0 f = f := by cases f <;> rfl
theorem nth_turnTo : ∀ (k : Nat) (f : Fo) (j : Nat), nth (turnTo k f) j = if j < k then (nth f j).map (fun x => (x.1, turnF x.2)) else nth f j
  | k, .nil, j => by simp [turnTo, nth]
  | 0, .cons h ks r, j => by simp [turnTo]
  | k + 1, .cons h ks r, 0 => by simp [turnTo, nth]
  | k + 1, .cons h ks r, j + 1 => by simp [turnTo, nth, nth_turnTo k r j]
theorem nth_turn : ∀ (f : Fo) (j : Nat), j < f.len → nth (turnF f) j = (nth f (f.len - 1 - j)).map (fun x => (x.1, turnF x.2))
  | .nil, j, h => by simp [Fo.len] at h
  | .cons h ks r, j, hj => by
    simp only [Fo.len] at hj
    rw [turnF, nth_app, turn_len]
    by_cases hlt : j < r.len
    · rw [if_pos hlt, nth_turn r j hlt]
      simp only [Fo.len]
      rw [show r.len + 1 - 1 - j = (r.len - 1 - j) + 1 by omega]; rfl
    · rw [if_neg hlt]
      simp only [Fo.len]
      rw [show j - r.len = 0 by omega, show r.len + 1 - 1 - j = 0 by omega]; rfl
theorem turnTo_all (f : Fo) : turnTo f.len (revF f) = turnF f := by
  refine fo_ext fun j => ?_
  rw [nth_turnTo]
  by_cases h : j < f.len
  · rw [if_pos h, nth_rev f j h, nth_turn f j h]
  · rw [if_neg h, nth_none (by rw [rev_len]; omega), nth_none (by rw [turn_len]; omega)]
theorem deep_app : ∀ f g : Fo, (f.app g).deep = max f.deep g.deep
  | .nil, g => by simp [Fo.app, Fo.deep]
  | .cons h ks r, g => by simp only [Fo.app, Fo.deep, deep_app r g]; omega
/-- all heads are valid. -/
theorem heads_zero {h : Hd} {ks r : Fo} : headsErr (.cons h ks r) = 0 ↔ headErr h = 0 ∧ ¬ (h.k ≠ 0 ∧ ks.len ≠ 0) ∧ headsErr ks = 0 ∧ headsErr r = 0 := by
  rw [headsErr]
  constructor
  · intro e
    by_cases h1 : headErr h = 0
    · rw [if_neg (by simpa using h1)] at e
      by_cases h2 : h.k ≠ 0 ∧ ks.len ≠ 0
      · rw [if_pos h2] at e; cases e
      · rw [if_neg h2] at e
        by_cases h3 : headsErr ks = 0
        · rw [if_neg (by simpa using h3)] at e
          exact ⟨h1, h2, h3, e⟩
        · rw [if_pos h3] at e; exact absurd e h3
    · rw [if_pos h1] at e; exact absurd e h1
  · rintro ⟨h1, h2, h3, h4⟩
    rw [if_neg (by simpa using h1), if_neg h2, if_neg (by simpa using h3), h4]
theorem heads_app2 : ∀ {f g : Fo}, headsErr (f.app g) = 0 ↔ headsErr f = 0 ∧ headsErr g = 0
  | .nil, g => by simp [Fo.app, headsErr]
  | .cons h ks r, g => by
    rw [Fo.app, heads_zero, heads_zero, heads_app2 (f := r)]
    constructor
    · rintro ⟨a, b, c, d, e⟩; exact ⟨⟨a, b, c, d⟩, e⟩
    · rintro ⟨⟨a, b, c, d⟩, e⟩; exact ⟨a, b, c, d, e⟩
theorem fo_zero {f : Fo} : foErr f = 0 ↔ f.size ≤ 400 ∧ f.deep ≤ 40 ∧ headsErr f = 0 := by
  unfold foErr
  constructor
  · intro e
    by_cases h1 : 400 < f.size
    · rw [if_pos h1] at e; cases e
    · rw [if_neg h1] at e
      by_cases h2 : 40 < f.deep
      · rw [if_pos h2] at e; cases e
      · rw [if_neg h2] at e; exact ⟨by omega, by omega, e⟩
  · rintro ⟨h1, h2, h3⟩
    rw [if_neg (by omega), if_neg (by omega), h3]
theorem place_nth (f : Fo) (j : Nat) (p : List Nat) : placeF f (pathInts (j :: p)) = match nth f j with
    | none => none
    | some (h, ks) => if p = [] then some (h, ks) else placeF ks (pathInts p) := by
  simp only [List.map_cons, placeF]
  rw [if_neg (by omega), Int.toNat_natCast]
  cases hn : nth f j with
  | none =>
    have : f.drop j = .nil := by
      rcases Nat.lt_or_ge j f.len with h | h
      · obtain ⟨a, b, e⟩ := nth_some h
        rw [hn] at e; cases e
      · exact Fo.drop_ge _ _ h
    rw [this]
  | some x =>
    obtain ⟨h, ks⟩ := x
    rw [drop_nth hn]
    cases p <;> simp
end Go.Proofs.YtcgedpfolloinaaGreat

namespace Go.Proofs.YtcgedpfolloinaaGreat
open Go.RowKit

/-- the forest at a path. -/
def goTo : Fo → List Nat → Option Fo
  | f, [] => some f
  | f, i :: q => match nth f i with
    | some (_, ks) => goTo ks q
    | none => none
/-- tree number i has other kids. -/
def setK (f : Fo) (i : Nat) (h : Hd) (x : Fo) : Fo := (f.take i).app (.cons h x (f.drop (i + 1)))
/-- the forest at a path is another one. -/
def changeAt : Fo → List Nat → Fo → Fo
  | _, [], x => x
  | f, i :: q, x => match nth f i with
    | some (h, ks) => setK f i h (changeAt ks q x)
    | none => f
/-- n trees from i on are others. -/
def spl (g : Fo) (i n : Nat) (b : Fo) : Fo := (g.take i).app (b.app (g.drop (i + n)))
theorem goTo_snoc : ∀ (q : List Nat) (f : Fo) {g : Fo} {i : Nat} {h : Hd} {ks : Fo}, goTo f q = some g → nth g i = some (h, ks) → goTo f (q ++ [i]) = some ks
  | [], f, g, i, h, ks, e, e2 => by
    cases e
    simp [goTo, e2]
  | a :: q, f, g, i, h, ks, e, e2 => by
    simp only [List.cons_append, goTo] at e ⊢
    cases hn : nth f a with
    | none => rw [hn] at e; cases e
    | some x =>
      rw [hn] at e
      exact goTo_snoc q x.2 e e2
theorem changeAt_snoc : ∀ (q : List Nat) (f : Fo) {g : Fo} {i : Nat} {h : Hd} {ks : Fo} (x : Fo), goTo f q = some g → nth g i = some (h, ks) → changeAt f (q ++ [i]) x = changeAt f q (setK g i h x)
  | [], f, g, i, h, ks, x, e, e2 => by
    cases e
    simp [changeAt, e2]
  | a :: q, f, g, i, h, ks, x, e, e2 => by
    simp only [List.cons_append, goTo, changeAt] at e ⊢
    cases hn : nth f a with
    | none => simp [hn] at e
    | some y =>
      rw [hn] at e
      exact congrArg (setK f a y.1) (changeAt_snoc q y.2 x e e2)
theorem nth_take : ∀ (f : Fo) (i j : Nat), nth (f.take i) j = if j < i then nth f j else none
  | .nil, i, j => by cases i <;> simp [Fo.take, nth]
  | .cons h ks r, 0, j => by simp [Fo.take, nth]
  | .cons h ks r, i + 1, 0 => by simp [Fo.take, nth]
  | .cons h ks r, i + 1, j + 1 => by simp [Fo.take, nth, nth_take r i j]
theorem nth_dropped : ∀ (f : Fo) (i j : Nat), nth (f.drop i) j = nth f (i + j)
  | .nil, i, j => by rw [Fo.drop_nil]; rfl
  | .cons h ks r, 0, j => by simp [Fo.drop]
  | .cons h ks r, i + 1, j => by
    rw [show i + 1 + j = (i + j) + 1 by omega]
    simp only [Fo.drop, nth]
    exact nth_dropped r i j
theorem nth_setK {f : Fo} {i : Nat} (hi : i < f.len) (h : Hd) (x : Fo) (j : Nat) : nth (setK f i h x) j = if j = i then some (h, x) else nth f j := by
  unfold setK
  rw [nth_app, len_take f i (by omega), nth_take]
  by_cases h1 : j < i
  · rw [if_pos h1, if_pos h1, if_neg (by omega)]
  · rw [if_neg h1]
    by_cases h2 : j = i
    · subst h2
      rw [if_pos rfl, Nat.sub_self]; rfl
    · rw [if_neg h2]
      obtain ⟨m, rfl⟩ : ∃ m, j = i + 1 + m := ⟨j - i - 1, by omega⟩
      rw [show i + 1 + m - i = m + 1 by omega]
      simp only [nth]
      rw [nth_dropped]
theorem len_setK {f : Fo} {i : Nat} (hi : i < f.len) (h : Hd) (x : Fo) : (setK f i h x).len = f.len := by
  unfold setK
  rw [Fo.len_app, len_take f i (by omega)]
  simp only [Fo.len]
  rw [Fo.len_drop]
  omega
end Go.Proofs.YtcgedpfolloinaaGreat
