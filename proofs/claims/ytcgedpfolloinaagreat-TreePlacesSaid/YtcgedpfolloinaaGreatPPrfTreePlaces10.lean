/- What the proof of PrfTreePlaces rests on, part 10 of 11. -/
import Derived.Maps.AppendAt
import Derived.Deep.DeepCutAuto
import Derived.Test.YtcgedpfolloinaaGreatPPrfTreePlaces9
namespace Go.Proofs.YtcgedpfolloinaaGreat
open Go.RowKit

set_option maxRecDepth 100000 in
set_option maxHeartbeats 2000000 in
theorem attrsOf_any (va : Value) (l : List (List UInt8 × List UInt8)) (w : World) (h : AttrsLie w va l) :
    Calls Tryz.prog 111 #[va] w fun e w' => ∃ a c, e = .returned (.slice a l.length c) ∧ AttrsF w.heap.size w' (.slice a l.length c) l ∧ Below w.heap.size w w' := by
  obtain ⟨i0, hi, hz0, hz1, hz2⟩ := info_parts info_attr
  obtain ⟨a, cap, rfl⟩ := attrs_form h
  have hl : l.length ≤ 4398046510976 := by
    rcases h with ⟨a, cap, _, rfl⟩ | ⟨b, off, cap, _, _, h, _⟩
    · simp
    · exact h
  have H := Lib.hid h
  clear h
  cases a with
  | none =>
    have hl0 : l = [] := by
      rcases H.out with ⟨_, _, h1, h2⟩ | ⟨b, off, cap', h1, _⟩
      · exact h2
      · simp at h1
    subst hl0
    simp only [List.length_nil]
    go_enter Tryz.func111, Tryz.ntmps111
    go_wp2_with fail
    go_ret
    exact ⟨_, _, rfl, .inl ⟨_, _, rfl, rfl⟩, by ((repeat' (first | exact Below.refl _ _ | assumption | refine Below.setCell ?_ ?_ _ | refine bdrewN ?_ _ | refine Below.drew ?_ | refine Below.alloc ?_ ?_ _ | refine bbehind ?_ (by assumption) ?_)); all_goals first | (simp; done) | (simp; omega) | omega)⟩
  | some ad =>
    have hnews : ∀ j u, (attrCells l)[j]? = some u → w.cell? (ad.add j) = some u := by
      intro j u hj
      have hjl : j < l.length * 2 := by rw [← attrCells_len]; exact (List.getElem?_eq_some_iff.1 hj).1
      obtain ⟨b, off, cap', hs, _, _, hb, hc⟩ := attrs_row H.out (by omega)
      simp only [Value.slice.injEq, Option.some.injEq] at hs
      obtain ⟨rfl, -, -⟩ := hs
      obtain ⟨e1, e2⟩ := attrCells_at l (j / 2) (by omega)
      obtain ⟨c1, c2⟩ := hc (j / 2) (by omega)
      rcases Nat.mod_two_eq_zero_or_one j with h | h
      · have ej : j = j / 2 * 2 := by omega
        rw [ej] at hj
        rw [e1] at hj
        rw [show (⟨b, off, none⟩ : Addr).add j = ⟨b, off + j / 2 * 2, none⟩ by rw [Go.WideShapes.add_plain, ← ej], c1]
        exact hj
      · have ej : j = j / 2 * 2 + 1 := by omega
        rw [ej] at hj
        rw [e2] at hj
        rw [show (⟨b, off, none⟩ : Addr).add j = ⟨b, off + j / 2 * 2 + 1, none⟩ by rw [Go.WideShapes.add_plain, Nat.add_assoc, ← ej], c2]
        exact hj
    have hown0 : w.ownsRow w.heap.size 81 2 (.slice none 0 0) 0 [] := ⟨rfl, .inl ⟨rfl, rfl⟩⟩
    have HN := Lib.hid hnews
    clear hnews
    go_enter Tryz.func111, Tryz.ntmps111
    go_wp2_with (at_builtin; refine wpList_append_own _ rfl _ _ 23 rfl w.heap.size 81 i0 (.agg #[.string ⟨#[]⟩, .string ⟨#[]⟩]) 2 32 Tryz.underlying23 hi hz0 hz1 hz2 rfl (by decide) _ _ _ rfl hown0 ad l.length cap (attrCells l) rfl (attrCells_len l) HN.out ?c1 ?c2 ?c3 ?c4 ?stop)
    case c1 =>
      intro u hu
      unfold attrCells at hu
      simp only [List.mem_flatMap, List.mem_cons, List.not_mem_nil, or_false] at hu
      obtain ⟨q, _, rfl | rfl⟩ := hu <;> rfl
    case c2 => unfold maxLen; omega
    case c3 => omega
    case c4 => simp
    case stop =>
      intro v' w2 hown hgrow _
      have HF := Lib.hid (attrsF_owned hown hl)
      have HB := Lib.hid ((Below.refl w.heap.size w).grown hgrow (by simp) (fun k hk => by simp [Value.ownBlock] at hk))
      obtain ⟨a2, c2, rfl⟩ := attrsF_form HF.out
      clear hown hgrow
      go_wp2_with fail
      go_ret
      exact ⟨a2, c2, rfl, HF.out, HB.out⟩

set_option maxRecDepth 100000 in
set_option maxHeartbeats 2000000 in
theorem below_any (v : Value) (l : List Int) (n : Int) (w : World) (h : IntsLie w v l) (hl : l.length ≤ 1000000) :
    Calls Tryz.prog 146 #[v, .int .i64 n] w fun e w' => ∃ a c, e = .returned (.slice a (l.length + 1) c) ∧ IntsF w.heap.size w' (.slice a (l.length + 1) c) (l ++ [n]) ∧ Below w.heap.size w w' := by
  obtain ⟨i0, hi, hz0, hz1, hz2⟩ := info_parts info_int2
  obtain ⟨a, cap, rfl⟩ := ints_form h
  have H := Lib.hid h
  clear h
  cases a with
  | none =>
    have hl0 : l = [] := by
      rcases H.out with ⟨_, _, h1, h2⟩ | ⟨b, off, cap', h1, _⟩
      · exact h2
      · simp at h1
    subst hl0
    simp only [List.length_nil]
    have hown0 : (w.alloc (.cells #[.int .i64 n] 3)).ownsRow w.heap.size 3 1 (.slice none 0 0) 0 [] := ⟨rfl, .inl ⟨rfl, rfl⟩⟩
    have hx : (w.alloc (.cells #[.int .i64 n] 3)).cell? ⟨w.heap.size, 0, none⟩ = some (.int .i64 n) := cell_of_block (World.alloc_heap_new _ _) rfl
    go_enter Tryz.func146, Tryz.ntmps146
    go_upto_region 3 with fail
    go_wp2_with (at_builtin; refine wpList_append_own _ rfl _ _ 41 rfl w.heap.size 3 i0 (.int .i64 0) 1 8 Tryz.underlying41 hi hz0 hz1 hz2 rfl (by decide) _ _ _ rfl hown0 ⟨w.heap.size, 0, none⟩ 1 1 [.int .i64 n] rfl (by simp) ?c0 ?c1 ?c2 ?c3 ?c4 ?stop)
    case c0 => intro j u hj; cases j with
      | zero => simp at hj; subst hj; exact hx
      | succ j => simp at hj
    case c1 =>
      intro u hu
      simp at hu; subst hu; rfl
    case c2 => unfold maxLen; omega
    case c3 => omega
    case c4 => simp
    case stop =>
      intro v' w2 hown hgrow _
      have HF := Lib.hid (intsF_owned (l := [n]) (by simpa using hown))
      have HB := Lib.hid ((((Below.refl w.heap.size w).alloc (Nat.le_refl _) _)).grown hgrow (by simp) (fun k hk => by simp [Value.ownBlock] at hk))
      obtain ⟨a2, c2, rfl⟩ := intsF_form HF.out
      clear hown hgrow
      simp only [List.length_cons, List.length_nil, Nat.zero_add] at HF ⊢
      go_wp2_with fail
      go_ret
      exact ⟨a2, c2, rfl, HF.out, HB.out⟩
  | some ad =>
    have hnews : ∀ j u, (l.map (Value.int .i64))[j]? = some u → w.cell? (ad.add j) = some u := by
      intro j u hj
      have hjl : j < l.length := by have := (List.getElem?_eq_some_iff.1 hj).1; simpa using this
      obtain ⟨b, off, cap', hs, _, hb, hc⟩ := ints_cells H.out (by intro e; subst e; simp at hjl)
      simp only [Value.slice.injEq, Option.some.injEq] at hs
      obtain ⟨rfl, -, -⟩ := hs
      rw [Go.WideShapes.add_plain, hc j hjl, ← hj]
      rw [List.getElem?_map, List.getD_eq_getElem?_getD, List.getElem?_eq_getElem hjl]; rfl
    have hown0 : w.ownsRow w.heap.size 3 1 (.slice none 0 0) 0 [] := ⟨rfl, .inl ⟨rfl, rfl⟩⟩
    have HN := Lib.hid hnews
    clear hnews
    go_enter Tryz.func146, Tryz.ntmps146
    go_wp2_with (at_builtin; refine wpList_append_own _ rfl _ _ 41 rfl w.heap.size 3 i0 (.int .i64 0) 1 8 Tryz.underlying41 hi hz0 hz1 hz2 rfl (by decide) _ _ _ rfl hown0 ad l.length cap (l.map (Value.int .i64)) rfl (by simp) HN.out ?c1 ?c2 ?c3 ?c4 ?stop)
    case c1 =>
      intro u hu
      obtain ⟨q, _, rfl⟩ := List.mem_map.1 hu
      rfl
    case c2 => unfold maxLen; omega
    case c3 => omega
    case c4 => simp
    case stop =>
      intro v' w2 hown hgrow _
      have HB := Lib.hid ((Below.refl w.heap.size w).grown hgrow (by simp) (fun k hk => by simp [Value.ownBlock] at hk))
      have hO : (w2.alloc (.cells #[.int .i64 n] 3)).ownsRow w.heap.size 3 1 v' l.length (l.map (Value.int .i64)) := hown.alloc _
      have hx : (w2.alloc (.cells #[.int .i64 n] 3)).cell? ⟨w2.heap.size, 0, none⟩ = some (.int .i64 n) := cell_of_block (World.alloc_heap_new _ _) rfl
      have hs2 := HB.out.size
      obtain ⟨a2, c2, rfl⟩ := intsF_form (intsF_owned hown)
      clear hown hgrow
      go_wp2_with (at_builtin; refine wpList_append_own _ rfl _ _ 41 rfl w.heap.size 3 i0 (.int .i64 0) 1 8 Tryz.underlying41 hi hz0 hz1 hz2 rfl (by decide) _ _ _ rfl hO ⟨w2.heap.size, 0, none⟩ 1 1 [.int .i64 n] rfl (by simp) ?c0 ?c1 ?c2 ?c3 ?c4 ?stop)
      case c0 => intro j u hj; cases j with
        | zero => simp at hj; subst hj; exact hx
        | succ j => simp at hj
      case c1 =>
        intro u hu
        simp at hu; subst hu; rfl
      case c2 => unfold maxLen; omega
      case c3 => omega
      case c4 => simp; omega
      case stop =>
        intro v' w3 hown hgrow _
        have HF := Lib.hid (intsF_owned (l := l ++ [n]) (by simpa using hown))
        have HC := Lib.hid ((HB.out.alloc hs2 (.cells #[.int .i64 n] 3)).grown hgrow (by simp; omega) (fun k hk => by
          rcases hO.2 with ⟨e, _⟩ | ⟨g, _, _, e, hg, _⟩
          · rw [e] at hk; simp [Value.ownBlock] at hk
          · rw [e] at hk; simp [Value.ownBlock] at hk; omega))
        obtain ⟨a3, c3, rfl⟩ := intsF_form HF.out
        clear hown hgrow
        simp only [List.length_append, List.length_cons, List.length_nil, Nat.zero_add] at HF ⊢
        go_wp2_with fail
        go_ret
        exact ⟨a3, c3, rfl, HF.out, HC.out⟩
end Go.Proofs.YtcgedpfolloinaaGreat

namespace Go.Proofs.YtcgedpfolloinaaGreat
open Go.RowKit

theorem take_snoc : ∀ {f : Fo} {k : Nat} {h : Hd} {ks r : Fo}, f.drop k = .cons h ks r → f.take (k + 1) = (f.take k).app (.cons h ks .nil)
  | .nil, k, _, _, _, e => by rw [Fo.drop_nil] at e; cases e
  | .cons h0 k0 r0, 0, h, ks, r, e => by
    simp only [Fo.drop, Fo.cons.injEq] at e
    obtain ⟨rfl, rfl, rfl⟩ := e
    cases r0 <;> rfl
  | .cons h0 k0 r0, k + 1, h, ks, r, e => by
    have ih := @take_snoc r0 k h ks r (by simpa [Fo.drop] using e)
    show Fo.cons h0 k0 (r0.take (k + 1)) = _
    rw [ih]; rfl
theorem take_all : ∀ (f : Fo), f.take f.len = f
  | .nil => rfl
  | .cons h ks r => by show Fo.cons h ks (r.take r.len) = _; rw [take_all r]
set_option maxRecDepth 100000 in
set_option maxHeartbeats 8000000 in
theorem copyOf_of (f : Fo) (v : Value) (w : World) (hl : Lies w v f) (hln : f.len ≤ 1000000)
    (HT : ∀ hd ks, (∃ j, j < f.len ∧ f.drop j = .cons hd ks (f.drop (j + 1))) → ∀ v w, Lies w v ks → Calls Tryz.prog 95 #[v] w (CloneRes w ks)) :
    Calls Tryz.prog 95 #[v] w (CloneRes w f) := by
  obtain ⟨i0, hi, hz0, hz1, hz2⟩ := info_parts info_tree
  have hlen := lies_len hl
  have HL := Lib.hid hl
  have HT' := Lib.hid HT
  obtain ⟨av, cv, rfl⟩ := lies_form hl
  clear hl HT
  go_enter Tryz.func95, Tryz.ntmps95
  go_wp2_with fail
  go_loopw [3, 4] (fun v3 i wr => ∃ (k g : Nat) (a : Option Addr) (cap : Nat) (cs : List Value), i = .int .i64 k ∧ k ≤ f.len ∧ v3 = .slice a k cap ∧ (∀ b, (Value.slice a k cap).ownBlock = some b → b = g) ∧ wr.ownsRow w.heap.size 43 7 (.slice a k cap) k cs ∧ Stab w.heap.size g wr (f.take k) cs ∧ Below w.heap.size w wr) (fun _ i _ => f.len - (intOf i).toNat)
  case atStart =>
    refine ⟨0, 0, none, 0, [], rfl, Nat.zero_le _, rfl, fun b hb => by simp [Value.ownBlock] at hb, ⟨rfl, .inl ⟨rfl, rfl⟩⟩, ?_, Below.refl _ _⟩
    intro W _ _
    cases f <;> rfl
  case round =>
    obtain ⟨k, g, a, cap, cs, rfl, hk, rfl, hg, hown, hst, hbw⟩ := hrel
    have hsw := hbw.size
    have HOWN := Lib.hid hown
    have HST := Lib.hid hst
    have HG := Lib.hid hg
    have hgl := Lib.hid (fun b (hb : (Value.slice a k cap).ownBlock = some b) => hown.lt b hb)
    clear hown hst hg
    by_cases hlt : k < f.len
    · have dk : decide (k < f.len) = true := by simpa using hlt
      obtain ⟨b, o, cap0, hs, hcap, -, hb, hrow⟩ := lies_row HL.out (by omega)
      simp only [Value.slice.injEq] at hs
      obtain ⟨rfl, -, rfl⟩ := hs
      obtain ⟨hd, ks, e, ⟨q0, q1, ⟨va, q2, ha'⟩, q3, q4, q5⟩, vk, q6, hlk⟩ := row_get hrow hlt
      obtain ⟨aa, ca, rfl⟩ := attrs_form ha'
      obtain ⟨ak, ck, rfl⟩ := lies_form hlk
      have r0 := (hbw.cell (p := ⟨b, o + k * 7, none⟩) hb).trans q0
      have r1 := (hbw.cell (p := ⟨b, o + k * 7 + 1, none⟩) hb).trans q1
      have r2 := (hbw.cell (p := ⟨b, o + k * 7 + 2, none⟩) hb).trans q2
      have r3 := (hbw.cell (p := ⟨b, o + k * 7 + 3, none⟩) hb).trans q3
      have r4 := (hbw.cell (p := ⟨b, o + k * 7 + 4, none⟩) hb).trans q4
      have r5 := (hbw.cell (p := ⟨b, o + k * 7 + 5, none⟩) hb).trans q5
      have r6 := (hbw.cell (p := ⟨b, o + k * 7 + 6, none⟩) hb).trans q6
      have hbr : b < wr.heap.size := by omega
      have HA := Lib.hid (fun W (hW : Below w.heap.size w W) => attrsOf_any _ _ W (attrs_below ha' hW))
      have HC := Lib.hid (fun W (hW : Below w.heap.size w W) => HT'.out hd ks ⟨k, hlt, e⟩ _ W (lies_below hlk hW))
      have HE := Lib.hid e
      clear q0 q1 q2 q3 q4 q5 q6 ha' hlk e hrow HT'
      go_upto_region 6 with fail
      have k1 := World.alloc_heap_new wr (.cells #[.int .i64 hd.k, .string ⟨hd.l.toArray⟩, .slice aa hd.ats.length ca, .int .i64 hd.n, .int .i64 hd.d, .string ⟨hd.x.toArray⟩, .slice ak ks.len ck] 43)
      have BW1 : Below wr.heap.size wr (wr.alloc (.cells #[.int .i64 hd.k, .string ⟨hd.l.toArray⟩, .slice aa hd.ats.length ca, .int .i64 hd.n, .int .i64 hd.d, .string ⟨hd.x.toArray⟩, .slice ak ks.len ck] 43)) := (Below.refl _ _).alloc (Nat.le_refl _) _
      have hs1 : (wr.alloc (.cells #[.int .i64 hd.k, .string ⟨hd.l.toArray⟩, .slice aa hd.ats.length ca, .int .i64 hd.n, .int .i64 hd.d, .string ⟨hd.x.toArray⟩, .slice ak ks.len ck] 43)).heap.size = wr.heap.size + 1 := by simp
      generalize wr.alloc (.cells #[.int .i64 hd.k, .string ⟨hd.l.toArray⟩, .slice aa hd.ats.length ca, .int .i64 hd.n, .int .i64 hd.d, .string ⟨hd.x.toArray⟩, .slice ak ks.len ck] 43) = X1 at *
      have BX1 := hbw.trans (BW1.mono hsw)
      have KT1 := Lib.hid k1
      have d2 : X1.cell? ⟨wr.heap.size, 2, none⟩ = some (.slice aa hd.ats.length ca) := cell_of_block k1 rfl
      have HS1 := Lib.hid hs1
      have hz1' : wr.heap.size < X1.heap.size := by omega
      clear k1 r0 r1 r2 r3 r4 r5 r6 hs1
      go_wp2_with fail
      refine (HA.out X1 BX1).mono ?_
      rintro e X2 ⟨a2, c2, rfl, hA2, hb2⟩
      have BW2 := BW1.trans (hb2.mono BW1.size)
      have k2 := (hb2.block _ hz1').trans KT1.out
      have hz2' : wr.heap.size < X2.heap.size := Nat.lt_of_lt_of_le hz1' hb2.size
      have f2 := frozen_of_block (o := 2) k2
      have d2' : X2.cell? ⟨wr.heap.size, 2, none⟩ = some (.slice aa hd.ats.length ca) := cell_of_block k2 rfl
      have KT2 := Lib.hid k2
      have HA2 := Lib.hid (attrsF_mono (B' := wr.heap.size + 1) (by rw [HS1.out]; omega) hA2)
      clear d2 k2 hb2 hA2
      go_upto_region 7 with fail
      have k3 : (X2.setCell ⟨wr.heap.size, 2, none⟩ (.slice a2 hd.ats.length c2)).heap[wr.heap.size]? = some (.cells #[.int .i64 hd.k, .string ⟨hd.l.toArray⟩, .slice a2 hd.ats.length c2, .int .i64 hd.n, .int .i64 hd.d, .string ⟨hd.x.toArray⟩, .slice ak ks.len ck] 43) := set_block KT2.out
      have BW3 : Below wr.heap.size wr (X2.setCell ⟨wr.heap.size, 2, none⟩ (.slice a2 hd.ats.length c2)) := BW2.setCell (Nat.le_refl _) _
      have hz3' : wr.heap.size < (X2.setCell ⟨wr.heap.size, 2, none⟩ (.slice a2 hd.ats.length c2)).heap.size := by rw [set_size']; exact hz2'
      have HA3 := Lib.hid (attrsF_keeps HA2.out (Keeps.setCell (B := wr.heap.size + 1) X2 (b := wr.heap.size) (by omega) 2 (.slice a2 hd.ats.length c2)))
      generalize X2.setCell ⟨wr.heap.size, 2, none⟩ (.slice a2 hd.ats.length c2) = X3 at *
      have BX3 := hbw.trans (BW3.mono hsw)
      have d6 : X3.cell? ⟨wr.heap.size, 6, none⟩ = some (.slice ak ks.len ck) := cell_of_block k3 rfl
      have KT3 := Lib.hid k3
      clear k3 d2' f2 KT1 KT2 HA2 BW1 BW2 BX1
      go_wp2_with fail
      refine (HC.out X3 BX3).mono ?_
      rintro e X4 ⟨a4, c4, rfl, hL4, hb4⟩
      have BW4 := BW3.trans (hb4.mono BW3.size)
      have k4 := (hb4.block _ hz3').trans KT3.out
      have hz4' : wr.heap.size < X4.heap.size := Nat.lt_of_lt_of_le hz3' hb4.size
      have f6 := frozen_of_block (o := 6) k4
      have d6' : X4.cell? ⟨wr.heap.size, 6, none⟩ = some (.slice ak ks.len ck) := cell_of_block k4 rfl
      have KT4 := Lib.hid k4
      have HA4 := Lib.hid (attrsF_keeps HA3.out (Keeps.of_below (B := wr.heap.size + 1) hb4))
      have HL4 := Lib.hid (liesF_mono (B' := wr.heap.size + 1) (by omega) hL4)
      clear d6 k4 hb4 hL4
      go_upto_region 8 with fail
      have k5 : (X4.setCell ⟨wr.heap.size, 6, none⟩ (.slice a4 ks.len c4)).heap[wr.heap.size]? = some (.cells #[.int .i64 hd.k, .string ⟨hd.l.toArray⟩, .slice a2 hd.ats.length c2, .int .i64 hd.n, .int .i64 hd.d, .string ⟨hd.x.toArray⟩, .slice a4 ks.len c4] 43) := set_block KT4.out
      have BW5 : Below wr.heap.size wr (X4.setCell ⟨wr.heap.size, 6, none⟩ (.slice a4 ks.len c4)) := BW4.setCell (Nat.le_refl _) _
      have hz5' : wr.heap.size < (X4.setCell ⟨wr.heap.size, 6, none⟩ (.slice a4 ks.len c4)).heap.size := by rw [set_size']; exact hz4'
      have HK5 := Keeps.setCell (B := wr.heap.size + 1) X4 (b := wr.heap.size) (by omega) 6 (.slice a4 ks.len c4)
      have HA5 := Lib.hid (attrsF_keeps HA4.out HK5)
      have HL5 := Lib.hid (liesF_keeps HL4.out HK5)
      clear HK5
      generalize X4.setCell ⟨wr.heap.size, 6, none⟩ (.slice a4 ks.len c4) = X5 at *
      have BX5 := hbw.trans (BW5.mono hsw)
      have d0 : X5.cell? ⟨wr.heap.size, 0, none⟩ = some (.int .i64 hd.k) := cell_of_block k5 rfl
      have d1 : X5.cell? ⟨wr.heap.size, 1, none⟩ = some (.string ⟨hd.l.toArray⟩) := cell_of_block k5 rfl
      have d2 : X5.cell? ⟨wr.heap.size, 2, none⟩ = some (.slice a2 hd.ats.length c2) := cell_of_block k5 rfl
      have d3 : X5.cell? ⟨wr.heap.size, 3, none⟩ = some (.int .i64 hd.n) := cell_of_block k5 rfl
      have d4 : X5.cell? ⟨wr.heap.size, 4, none⟩ = some (.int .i64 hd.d) := cell_of_block k5 rfl
      have d5 : X5.cell? ⟨wr.heap.size, 5, none⟩ = some (.string ⟨hd.x.toArray⟩) := cell_of_block k5 rfl
      have d6 : X5.cell? ⟨wr.heap.size, 6, none⟩ = some (.slice a4 ks.len c4) := cell_of_block k5 rfl
      have O5 := Lib.hid (owns_belowV HOWN.out BW5)
      have hnew := World.alloc_heap_new X5 (.cells #[.int .i64 hd.k, .string ⟨hd.l.toArray⟩, .slice a2 hd.ats.length c2, .int .i64 hd.n, .int .i64 hd.d, .string ⟨hd.x.toArray⟩, .slice a4 ks.len c4] 43)
      have hbx5 := BX5.size
      clear k5 d6' f6 KT3 KT4 HA3 HA4 HL4 BW3 BW4 BX3
      go_wp2_with (at_builtin; refine wpList_append_own_at _ rfl _ _ 28 rfl w.heap.size 43 i0 _ 7 104 Tryz.underlying28 hi hz0 hz1 hz2 rfl (by decide) _ k cs rfl (O5.out.alloc _) ⟨X5.heap.size, 0, none⟩ 1 1 (treeCells hd a2 c2 a4 ks.len c4) rfl rfl ?c1 ?c2 ?c3 ?c4 ?c5 ?stop)
      case c1 =>
        intro j u hj
        rw [Go.WideShapes.add_plain]
        exact cell_of_block hnew (by simpa [treeCells] using hj)
      case c2 => intro u hu; simp [treeCells] at hu; rcases hu with rfl | rfl | rfl | rfl | rfl | rfl | rfl <;> rfl
      case c3 => unfold maxLen; omega
      case c4 => omega
      case c5 => simp; omega
      case stop =>
        intro v' w6 hown' hgrow _ hat
        obtain ⟨g', cap', rfl⟩ : ∃ g cap, v' = .slice (some ⟨g, 0, none⟩) (k + 1) cap := by
          rcases hown'.2 with ⟨_, h0⟩ | ⟨g, cap, cur, hv, _⟩
          · omega
          · exact ⟨g, cap, hv⟩
        have hat2 : g' = g ∨ g' = X5.heap.size + 1 := by
          rcases hat with h | h
          · exact .inl (HG.out g' (h.symm.trans rfl))
          · exact .inr (by simpa [Value.ownBlock] using h)
        have hs6 := hgrow.size
        simp at hs6
        have hw5 := BW5.size
        have hcell : ∀ W : World, w6.heap.size ≤ W.heap.size → (∀ k o, w.heap.size ≤ k → k < w6.heap.size → k ≠ g' → W.cell? ⟨k, o, none⟩ = w6.cell? ⟨k, o, none⟩) → ∀ k' o, w.heap.size ≤ k' → k' < X5.heap.size → (∀ j, (Value.slice a k cap).ownBlock = some j → k' ≠ j) → W.cell? ⟨k', o, none⟩ = X5.cell? ⟨k', o, none⟩ := by
          intro W hW hc k' o' h1 h2 h3
          refine (hc k' o' h1 (by omega) ?_).trans (World.cell?_of_block ?_)
          · rcases hat with h | h
            · exact h3 g' (h.symm.trans rfl)
            · have : g' = X5.heap.size + 1 := by simpa [Value.ownBlock] using h
              omega
          · rw [hgrow.block k' (by simp; omega) (by intro h; exact h3 k' h.symm rfl), Below.heap_alloc _ _ k' h2]
        have S6 := Lib.hid (show Stab w.heap.size g' w6 (f.take (k + 1)) (cs ++ treeCells hd a2 c2 a4 ks.len c4) by
          rw [take_snoc HE.out]
          intro W hW hc
          have hcc := hcell W hW hc
          have hk : Keeps (wr.heap.size + 1) X5 W := ⟨by omega, fun k' o' h1 h2 => hcc k' o' (by omega) h2 (fun j hj => by have := (hgl.out j hj).2; omega)⟩
          exact rowL_snoc (attrsF_mono (by omega) (attrsF_keeps HA5.out hk)) (liesF_mono (by omega) (liesF_keeps HL5.out hk)) (f.take k) cs (HST.out W (by omega) fun k' o' h1 h2 h3 => (hcc k' o' h1 (by omega) (fun j hj => by rw [HG.out j hj]; exact h3)).trans ((bcell BW5).1 k' o' h2)))
        have O6 := Lib.hid hown'
        have B6 := Lib.hid ((BX5.alloc hbx5 (.cells #[.int .i64 hd.k, .string ⟨hd.l.toArray⟩, .slice a2 hd.ats.length c2, .int .i64 hd.n, .int .i64 hd.d, .string ⟨hd.x.toArray⟩, .slice a4 ks.len c4] 43)).grown hgrow (by simp; omega) (fun k hk => (hgl.out k hk).1))
        clear hown' hgrow hat hat2 hcell hnew d0 d1 d2 d3 d4 d5 d6
        go_wp2_with fail
        go_roundw
        case rel => exact ⟨k + 1, g', some ⟨g', 0, none⟩, cap', _, by go_num, by omega, rfl, fun b hb => by simpa [Value.ownBlock] using hb.symm, O6.out, S6.out, B6.out⟩
        case measure => simp [intOf]; omega
    · have dk : decide (k < f.len) = false := by simpa using hlt
      obtain rfl : k = f.len := by omega
      have HF := Lib.hid (show LiesF w.heap.size wr (.slice a f.len cap) f by
        have hrow := HST.out wr (Nat.le_refl _) (fun _ _ _ _ _ => rfl)
        rw [take_all] at hrow
        rcases HOWN.out.2 with ⟨h3, h4⟩ | ⟨g1, cap1, cur, h3, hb1, hg1, hn1, hc1, _, _⟩
        · exact .inl ⟨none, 0, by simpa [h4] using h3, Fo.len_nil h4⟩
        · have hgl2 := (hgl.out g1 (by rw [h3]; rfl)).2
          have hcs := HOWN.out.cells (g := g1) (by rw [h3]; rfl)
          simp only [Value.slice.injEq] at h3
          obtain ⟨rfl, -, rfl⟩ := h3
          exact .inr ⟨g1, 0, cap, rfl, hn1, by omega, hb1, hgl2, rowL_row f cs 0 hrow fun j u hj => by
            have := hcs j u hj
            rw [Go.WideShapes.add_plain] at this
            simpa using this⟩)
      go_wp2_with fail
      go_ret
      exact ⟨a, cap, rfl, HF.out, hbw⟩

/-- CopyOf gives the forest in memory of its own. -/
theorem copyOf_any : ∀ (N : Nat) (f : Fo), f.size ≤ N → f.size ≤ 1000000 → ∀ (v : Value) (w : World), Lies w v f → Calls Tryz.prog 95 #[v] w (CloneRes w f) := by
  intro N
  induction N with
  | zero =>
    intro f hf h1 v w hl
    exact copyOf_of f v w hl (by have := Fo.len_le_size f; omega) (fun h ks ⟨j, hj, _⟩ => by have := Fo.len_le_size f; omega)
  | succ N ih =>
    intro f hf h1 v w hl
    refine copyOf_of f v w hl (by have := Fo.len_le_size f; omega) (fun hd ks ⟨j, hj, e⟩ v w hk => ?_)
    have := kid_size e
    exact ih ks (by omega) (by omega) v w hk
end Go.Proofs.YtcgedpfolloinaaGreat

namespace Go.Proofs.YtcgedpfolloinaaGreat
open Go.RowKit

theorem ints_tail {w : World} {b off cap : Nat} {i : Int} {r : List Int} (h : IntsLie w (.slice (some ⟨b, off, none⟩) (r.length + 1) cap) (i :: r)) : IntsLie w (.slice (some ⟨b, off + 1, none⟩) r.length (cap - 1)) r := by
  rcases h with ⟨a, c, e, h⟩ | ⟨b', off', cap', e, h1, h2, h3⟩
  · cases h
  · simp only [List.length_cons, Value.slice.injEq, Option.some.injEq, Addr.mk.injEq, and_true, true_and] at e
    obtain ⟨⟨rfl, rfl⟩, rfl⟩ := e
    simp only [List.length_cons] at h1 h3
    refine .inr ⟨b, off + 1, cap - 1, rfl, by omega, h2, fun k hk => ?_⟩
    have := h3 (k + 1) (by omega)
    rw [show off + 1 + k = off + (k + 1) by omega, this]; rfl

def PlaceVal (w : World) (f : Fo) (p : List Int) (V : Value) : Prop :=
  ∃ h ks aa ca ak ck, V = .tuple #[aggOf h aa ca ak ks.len ck, .bool (placeF f p).isSome] ∧ AttrsLie w (.slice aa h.ats.length ca) h.ats ∧ Lies w (.slice ak ks.len ck) ks ∧
    (placeF f p = some (h, ks) ∨ (placeF f p = none ∧ h = zeroHd ∧ ks = .nil ∧ aa = none ∧ ca = 0 ∧ ak = none ∧ ck = 0))
theorem PlaceVal.none {w : World} {f : Fo} {p : List Int} (h : placeF f p = none) : PlaceVal w f p (.tuple #[aggOf zeroHd none 0 none 0 0, .bool false]) :=
  ⟨zeroHd, .nil, _, _, _, _, by rw [h]; rfl, .inl ⟨_, _, rfl, rfl⟩, .inl ⟨_, _, rfl, rfl⟩, .inr ⟨h, rfl, rfl, rfl, rfl, rfl, rfl⟩⟩

set_option maxRecDepth 100000 in
set_option maxHeartbeats 4000000 in
theorem place_nil (v : Value) (a : Option Addr) (c : Nat) (w1 : World) :
    Calls Tryz.prog 94 #[v, .slice a 0 c] w1 fun e w' => e = .returned (.tuple #[aggOf zeroHd none 0 none 0 0, .bool false]) ∧ Below w1.heap.size w1 w' := by
  have kb := World.alloc_heap_new w1 (.cells #[.int .i64 0, .string ⟨#[]⟩, .slice none 0 0, .int .i64 0, .int .i64 0, .string ⟨#[]⟩, .slice none 0 0] 43)
  have B1 : Below w1.heap.size w1 (w1.alloc (.cells #[.int .i64 0, .string ⟨#[]⟩, .slice none 0 0, .int .i64 0, .int .i64 0, .string ⟨#[]⟩, .slice none 0 0] 43)) := (Below.refl _ _).alloc (Nat.le_refl _) _
  have hs1 : w1.heap.size < (w1.alloc (.cells #[.int .i64 0, .string ⟨#[]⟩, .slice none 0 0, .int .i64 0, .int .i64 0, .string ⟨#[]⟩, .slice none 0 0] 43)).heap.size := by simp
  go_enter Tryz.func94, Tryz.ntmps94
  go_upto_region 1 with fail
  generalize w1.alloc (.cells #[.int .i64 0, .string ⟨#[]⟩, .slice none 0 0, .int .i64 0, .int .i64 0, .string ⟨#[]⟩, .slice none 0 0] 43) = X at *
  have z0 : X.cell? ⟨w1.heap.size, 0, none⟩ = some (.int .i64 0) := cell_of_block kb rfl
  have y0 := frozen_of_block (o := 0) kb
  have z1 : X.cell? ⟨w1.heap.size, 1, none⟩ = some (.string ⟨#[]⟩) := cell_of_block kb rfl
  have y1 := frozen_of_block (o := 1) kb
  have z2 : X.cell? ⟨w1.heap.size, 2, none⟩ = some (.slice none 0 0) := cell_of_block kb rfl
  have y2 := frozen_of_block (o := 2) kb
  have z3 : X.cell? ⟨w1.heap.size, 3, none⟩ = some (.int .i64 0) := cell_of_block kb rfl
  have y3 := frozen_of_block (o := 3) kb
  have z4 : X.cell? ⟨w1.heap.size, 4, none⟩ = some (.int .i64 0) := cell_of_block kb rfl
  have y4 := frozen_of_block (o := 4) kb
  have z5 : X.cell? ⟨w1.heap.size, 5, none⟩ = some (.string ⟨#[]⟩) := cell_of_block kb rfl
  have y5 := frozen_of_block (o := 5) kb
  have z6 : X.cell? ⟨w1.heap.size, 6, none⟩ = some (.slice none 0 0) := cell_of_block kb rfl
  have y6 := frozen_of_block (o := 6) kb
  have KB := Lib.hid kb
  clear kb
  go_wp2_with fail
  have hfin := set7_blk (.int .i64 0) (.string ⟨#[]⟩) (.slice none 0 0) (.int .i64 0) (.int .i64 0) (.string ⟨#[]⟩) (.slice none 0 0) KB.out
  have hbel := set7_below (R := w1.heap.size) (.int .i64 0) (.string ⟨#[]⟩) (.slice none 0 0) (.int .i64 0) (.int .i64 0) (.string ⟨#[]⟩) (.slice none 0 0) B1 (Nat.le_refl _)
  generalize (((((((X.setCell ⟨w1.heap.size, 0, none⟩ (.int .i64 0)).setCell ⟨w1.heap.size, 1, none⟩ (.string ⟨#[]⟩)).setCell ⟨w1.heap.size, 2, none⟩ (.slice none 0 0)).setCell ⟨w1.heap.size, 3, none⟩ (.int .i64 0)).setCell ⟨w1.heap.size, 4, none⟩ (.int .i64 0)).setCell ⟨w1.heap.size, 5, none⟩ (.string ⟨#[]⟩)).setCell ⟨w1.heap.size, 6, none⟩ (.slice none 0 0)) = Wf at hfin hbel ⊢
  have u0 : Wf.cell? ⟨w1.heap.size, 0, none⟩ = some (.int .i64 0) := cell_of_block hfin rfl
  have u1 : Wf.cell? ⟨w1.heap.size, 1, none⟩ = some (.string ⟨#[]⟩) := cell_of_block hfin rfl
  have u2 : Wf.cell? ⟨w1.heap.size, 2, none⟩ = some (.slice none 0 0) := cell_of_block hfin rfl
  have u3 : Wf.cell? ⟨w1.heap.size, 3, none⟩ = some (.int .i64 0) := cell_of_block hfin rfl
  have u4 : Wf.cell? ⟨w1.heap.size, 4, none⟩ = some (.int .i64 0) := cell_of_block hfin rfl
  have u5 : Wf.cell? ⟨w1.heap.size, 5, none⟩ = some (.string ⟨#[]⟩) := cell_of_block hfin rfl
  have u6 : Wf.cell? ⟨w1.heap.size, 6, none⟩ = some (.slice none 0 0) := cell_of_block hfin rfl
  refine bodyPost_ret (v := .tuple #[aggOf zeroHd none 0 none 0 0, .bool false]) (by simp [results, Tryz.results94, go_sem, aggOf, zeroHd, u0, u1, u2, u3, u4, u5, u6]) rfl ?_
  exact ⟨rfl, hbel⟩

set_option maxRecDepth 100000 in
set_option maxHeartbeats 4000000 in
theorem place_out (f : Fo) (a : Option Addr) (ca : Nat) (b off c n : Nat) (i : Int) (w1 : World) (hb : b < w1.heap.size) (hn : n ≤ 1000000) (hl : f.len ≤ 2000000000000) (hi : w1.cell? ⟨b, off, none⟩ = some (.int .i64 i)) (ho : inB i 0 ((f.len : Int) - 1) = false) :
    Calls Tryz.prog 94 #[.slice a f.len ca, .slice (some ⟨b, off, none⟩) (n + 1) c] w1 fun e w' => e = .returned (.tuple #[aggOf zeroHd none 0 none 0 0, .bool false]) ∧ Below w1.heap.size w1 w' := by
  have IN := Lib.hid (fun w => in_any i 0 ((f.len : Int) - 1) w)
  rw [ho] at IN
  have e0 : (((n : Int) + 1) == 0) = false := by simp; omega
  have kb := World.alloc_heap_new w1 (.cells #[.int .i64 0, .string ⟨#[]⟩, .slice none 0 0, .int .i64 0, .int .i64 0, .string ⟨#[]⟩, .slice none 0 0] 43)
  have B1 : Below w1.heap.size w1 (w1.alloc (.cells #[.int .i64 0, .string ⟨#[]⟩, .slice none 0 0, .int .i64 0, .int .i64 0, .string ⟨#[]⟩, .slice none 0 0] 43)) := (Below.refl _ _).alloc (Nat.le_refl _) _
  have hs1 : w1.heap.size < (w1.alloc (.cells #[.int .i64 0, .string ⟨#[]⟩, .slice none 0 0, .int .i64 0, .int .i64 0, .string ⟨#[]⟩, .slice none 0 0] 43)).heap.size := by simp
  have hiX : (w1.alloc (.cells #[.int .i64 0, .string ⟨#[]⟩, .slice none 0 0, .int .i64 0, .int .i64 0, .string ⟨#[]⟩, .slice none 0 0] 43)).cell? ⟨b, off, none⟩ = some (.int .i64 i) := (World.cell?_of_block (Below.heap_alloc w1 _ b hb)).trans hi
  go_enter Tryz.func94, Tryz.ntmps94
  go_upto_region 1 with fail
  generalize w1.alloc (.cells #[.int .i64 0, .string ⟨#[]⟩, .slice none 0 0, .int .i64 0, .int .i64 0, .string ⟨#[]⟩, .slice none 0 0] 43) = X at *
  have z0 : X.cell? ⟨w1.heap.size, 0, none⟩ = some (.int .i64 0) := cell_of_block kb rfl
  have y0 := frozen_of_block (o := 0) kb
  have z1 : X.cell? ⟨w1.heap.size, 1, none⟩ = some (.string ⟨#[]⟩) := cell_of_block kb rfl
  have y1 := frozen_of_block (o := 1) kb
  have z2 : X.cell? ⟨w1.heap.size, 2, none⟩ = some (.slice none 0 0) := cell_of_block kb rfl
  have y2 := frozen_of_block (o := 2) kb
  have z3 : X.cell? ⟨w1.heap.size, 3, none⟩ = some (.int .i64 0) := cell_of_block kb rfl
  have y3 := frozen_of_block (o := 3) kb
  have z4 : X.cell? ⟨w1.heap.size, 4, none⟩ = some (.int .i64 0) := cell_of_block kb rfl
  have y4 := frozen_of_block (o := 4) kb
  have z5 : X.cell? ⟨w1.heap.size, 5, none⟩ = some (.string ⟨#[]⟩) := cell_of_block kb rfl
  have y5 := frozen_of_block (o := 5) kb
  have z6 : X.cell? ⟨w1.heap.size, 6, none⟩ = some (.slice none 0 0) := cell_of_block kb rfl
  have y6 := frozen_of_block (o := 6) kb
  have KB := Lib.hid kb
  clear kb
  go_wp2_with fail
  refine (IN.out X).mono ?_
  rintro e X2 ⟨rfl, rfl⟩
  go_wp2_with fail
  have hfin := set7_blk (.int .i64 0) (.string ⟨#[]⟩) (.slice none 0 0) (.int .i64 0) (.int .i64 0) (.string ⟨#[]⟩) (.slice none 0 0) KB.out
  have hbel := set7_below (R := w1.heap.size) (.int .i64 0) (.string ⟨#[]⟩) (.slice none 0 0) (.int .i64 0) (.int .i64 0) (.string ⟨#[]⟩) (.slice none 0 0) B1 (Nat.le_refl _)
  generalize (((((((X.setCell ⟨w1.heap.size, 0, none⟩ (.int .i64 0)).setCell ⟨w1.heap.size, 1, none⟩ (.string ⟨#[]⟩)).setCell ⟨w1.heap.size, 2, none⟩ (.slice none 0 0)).setCell ⟨w1.heap.size, 3, none⟩ (.int .i64 0)).setCell ⟨w1.heap.size, 4, none⟩ (.int .i64 0)).setCell ⟨w1.heap.size, 5, none⟩ (.string ⟨#[]⟩)).setCell ⟨w1.heap.size, 6, none⟩ (.slice none 0 0)) = Wf at hfin hbel ⊢
  have u0 : Wf.cell? ⟨w1.heap.size, 0, none⟩ = some (.int .i64 0) := cell_of_block hfin rfl
  have u1 : Wf.cell? ⟨w1.heap.size, 1, none⟩ = some (.string ⟨#[]⟩) := cell_of_block hfin rfl
  have u2 : Wf.cell? ⟨w1.heap.size, 2, none⟩ = some (.slice none 0 0) := cell_of_block hfin rfl
  have u3 : Wf.cell? ⟨w1.heap.size, 3, none⟩ = some (.int .i64 0) := cell_of_block hfin rfl
  have u4 : Wf.cell? ⟨w1.heap.size, 4, none⟩ = some (.int .i64 0) := cell_of_block hfin rfl
  have u5 : Wf.cell? ⟨w1.heap.size, 5, none⟩ = some (.string ⟨#[]⟩) := cell_of_block hfin rfl
  have u6 : Wf.cell? ⟨w1.heap.size, 6, none⟩ = some (.slice none 0 0) := cell_of_block hfin rfl
  refine bodyPost_ret (v := .tuple #[aggOf zeroHd none 0 none 0 0, .bool false]) (by simp [results, Tryz.results94, go_sem, aggOf, zeroHd, u0, u1, u2, u3, u4, u5, u6]) rfl ?_
  exact ⟨rfl, hbel⟩

set_option maxRecDepth 100000 in
set_option maxHeartbeats 4000000 in
theorem place_one (f : Fo) (b2 o2 cf b off c : Nat) (j : Nat) (hd : Hd) (ks : Fo) (aa : Option Addr) (ca : Nat) (ak : Option Addr) (ck : Nat) (w1 : World) (hb : b < w1.heap.size) (hl : f.len ≤ 2000000000000) (hi : w1.cell? ⟨b, off, none⟩ = some (.int .i64 j)) (hj : j < f.len) (hb2 : b2 < w1.heap.size)
    (q0 : w1.cell? ⟨b2, o2 + j * 7, none⟩ = some (.int .i64 hd.k))
    (q1 : w1.cell? ⟨b2, o2 + j * 7 + 1, none⟩ = some (.string ⟨hd.l.toArray⟩))
    (q2 : w1.cell? ⟨b2, o2 + j * 7 + 2, none⟩ = some (.slice aa hd.ats.length ca))
    (q3 : w1.cell? ⟨b2, o2 + j * 7 + 3, none⟩ = some (.int .i64 hd.n))
    (q4 : w1.cell? ⟨b2, o2 + j * 7 + 4, none⟩ = some (.int .i64 hd.d))
    (q5 : w1.cell? ⟨b2, o2 + j * 7 + 5, none⟩ = some (.string ⟨hd.x.toArray⟩))
    (q6 : w1.cell? ⟨b2, o2 + j * 7 + 6, none⟩ = some (.slice ak ks.len ck))
    : Calls Tryz.prog 94 #[.slice (some ⟨b2, o2, none⟩) f.len cf, .slice (some ⟨b, off, none⟩) 1 c] w1 fun e w' => e = .returned (.tuple #[aggOf hd aa ca ak ks.len ck, .bool true]) ∧ Below w1.heap.size w1 w' := by
  have IN := Lib.hid (fun w => in_any (j : Int) 0 ((f.len : Int) - 1) w)
  rw [show inB (j : Int) 0 ((f.len : Int) - 1) = true by unfold inB; simp; omega] at IN
  have kb := World.alloc_heap_new w1 (.cells #[.int .i64 0, .string ⟨#[]⟩, .slice none 0 0, .int .i64 0, .int .i64 0, .string ⟨#[]⟩, .slice none 0 0] 43)
  have B1 : Below w1.heap.size w1 (w1.alloc (.cells #[.int .i64 0, .string ⟨#[]⟩, .slice none 0 0, .int .i64 0, .int .i64 0, .string ⟨#[]⟩, .slice none 0 0] 43)) := (Below.refl _ _).alloc (Nat.le_refl _) _
  have hs1 : w1.heap.size < (w1.alloc (.cells #[.int .i64 0, .string ⟨#[]⟩, .slice none 0 0, .int .i64 0, .int .i64 0, .string ⟨#[]⟩, .slice none 0 0] 43)).heap.size := by simp
  have hiX : (w1.alloc (.cells #[.int .i64 0, .string ⟨#[]⟩, .slice none 0 0, .int .i64 0, .int .i64 0, .string ⟨#[]⟩, .slice none 0 0] 43)).cell? ⟨b, off, none⟩ = some (.int .i64 j) := (World.cell?_of_block (Below.heap_alloc w1 _ b hb)).trans hi
  have r0 : (w1.alloc (.cells #[.int .i64 0, .string ⟨#[]⟩, .slice none 0 0, .int .i64 0, .int .i64 0, .string ⟨#[]⟩, .slice none 0 0] 43)).cell? ⟨b2, o2 + j * 7, none⟩ = some (.int .i64 hd.k) := (World.cell?_of_block (Below.heap_alloc w1 _ b2 hb2)).trans q0
  have r1 : (w1.alloc (.cells #[.int .i64 0, .string ⟨#[]⟩, .slice none 0 0, .int .i64 0, .int .i64 0, .string ⟨#[]⟩, .slice none 0 0] 43)).cell? ⟨b2, o2 + j * 7 + 1, none⟩ = some (.string ⟨hd.l.toArray⟩) := (World.cell?_of_block (Below.heap_alloc w1 _ b2 hb2)).trans q1
  have r2 : (w1.alloc (.cells #[.int .i64 0, .string ⟨#[]⟩, .slice none 0 0, .int .i64 0, .int .i64 0, .string ⟨#[]⟩, .slice none 0 0] 43)).cell? ⟨b2, o2 + j * 7 + 2, none⟩ = some (.slice aa hd.ats.length ca) := (World.cell?_of_block (Below.heap_alloc w1 _ b2 hb2)).trans q2
  have r3 : (w1.alloc (.cells #[.int .i64 0, .string ⟨#[]⟩, .slice none 0 0, .int .i64 0, .int .i64 0, .string ⟨#[]⟩, .slice none 0 0] 43)).cell? ⟨b2, o2 + j * 7 + 3, none⟩ = some (.int .i64 hd.n) := (World.cell?_of_block (Below.heap_alloc w1 _ b2 hb2)).trans q3
  have r4 : (w1.alloc (.cells #[.int .i64 0, .string ⟨#[]⟩, .slice none 0 0, .int .i64 0, .int .i64 0, .string ⟨#[]⟩, .slice none 0 0] 43)).cell? ⟨b2, o2 + j * 7 + 4, none⟩ = some (.int .i64 hd.d) := (World.cell?_of_block (Below.heap_alloc w1 _ b2 hb2)).trans q4
  have r5 : (w1.alloc (.cells #[.int .i64 0, .string ⟨#[]⟩, .slice none 0 0, .int .i64 0, .int .i64 0, .string ⟨#[]⟩, .slice none 0 0] 43)).cell? ⟨b2, o2 + j * 7 + 5, none⟩ = some (.string ⟨hd.x.toArray⟩) := (World.cell?_of_block (Below.heap_alloc w1 _ b2 hb2)).trans q5
  have r6 : (w1.alloc (.cells #[.int .i64 0, .string ⟨#[]⟩, .slice none 0 0, .int .i64 0, .int .i64 0, .string ⟨#[]⟩, .slice none 0 0] 43)).cell? ⟨b2, o2 + j * 7 + 6, none⟩ = some (.slice ak ks.len ck) := (World.cell?_of_block (Below.heap_alloc w1 _ b2 hb2)).trans q6
  have nb2 : ¬ b2 = w1.heap.size := by omega
  have nb3 : ¬ w1.heap.size = b2 := by omega
  clear q0 q1 q2 q3 q4 q5 q6
  go_enter Tryz.func94, Tryz.ntmps94
  go_upto_region 1 with fail
  generalize w1.alloc (.cells #[.int .i64 0, .string ⟨#[]⟩, .slice none 0 0, .int .i64 0, .int .i64 0, .string ⟨#[]⟩, .slice none 0 0] 43) = X at *
  have z0 : X.cell? ⟨w1.heap.size, 0, none⟩ = some (.int .i64 0) := cell_of_block kb rfl
  have y0 := frozen_of_block (o := 0) kb
  have z1 : X.cell? ⟨w1.heap.size, 1, none⟩ = some (.string ⟨#[]⟩) := cell_of_block kb rfl
  have y1 := frozen_of_block (o := 1) kb
  have z2 : X.cell? ⟨w1.heap.size, 2, none⟩ = some (.slice none 0 0) := cell_of_block kb rfl
  have y2 := frozen_of_block (o := 2) kb
  have z3 : X.cell? ⟨w1.heap.size, 3, none⟩ = some (.int .i64 0) := cell_of_block kb rfl
  have y3 := frozen_of_block (o := 3) kb
  have z4 : X.cell? ⟨w1.heap.size, 4, none⟩ = some (.int .i64 0) := cell_of_block kb rfl
  have y4 := frozen_of_block (o := 4) kb
  have z5 : X.cell? ⟨w1.heap.size, 5, none⟩ = some (.string ⟨#[]⟩) := cell_of_block kb rfl
  have y5 := frozen_of_block (o := 5) kb
  have z6 : X.cell? ⟨w1.heap.size, 6, none⟩ = some (.slice none 0 0) := cell_of_block kb rfl
  have y6 := frozen_of_block (o := 6) kb
  have KB := Lib.hid kb
  clear kb
  go_wp2_with fail
  refine (IN.out X).mono ?_
  rintro e X2 ⟨rfl, rfl⟩
  go_wp2_with fail
  have hfin := set7_blk (.int .i64 hd.k) (.string ⟨hd.l.toArray⟩) (.slice aa hd.ats.length ca) (.int .i64 hd.n) (.int .i64 hd.d) (.string ⟨hd.x.toArray⟩) (.slice ak ks.len ck) KB.out
  have hbel := set7_below (R := w1.heap.size) (.int .i64 hd.k) (.string ⟨hd.l.toArray⟩) (.slice aa hd.ats.length ca) (.int .i64 hd.n) (.int .i64 hd.d) (.string ⟨hd.x.toArray⟩) (.slice ak ks.len ck) B1 (Nat.le_refl _)
  generalize (((((((X.setCell ⟨w1.heap.size, 0, none⟩ (.int .i64 hd.k)).setCell ⟨w1.heap.size, 1, none⟩ (.string ⟨hd.l.toArray⟩)).setCell ⟨w1.heap.size, 2, none⟩ (.slice aa hd.ats.length ca)).setCell ⟨w1.heap.size, 3, none⟩ (.int .i64 hd.n)).setCell ⟨w1.heap.size, 4, none⟩ (.int .i64 hd.d)).setCell ⟨w1.heap.size, 5, none⟩ (.string ⟨hd.x.toArray⟩)).setCell ⟨w1.heap.size, 6, none⟩ (.slice ak ks.len ck)) = Wf at hfin hbel ⊢
  have u0 : Wf.cell? ⟨w1.heap.size, 0, none⟩ = some (.int .i64 hd.k) := cell_of_block hfin rfl
  have u1 : Wf.cell? ⟨w1.heap.size, 1, none⟩ = some (.string ⟨hd.l.toArray⟩) := cell_of_block hfin rfl
  have u2 : Wf.cell? ⟨w1.heap.size, 2, none⟩ = some (.slice aa hd.ats.length ca) := cell_of_block hfin rfl
  have u3 : Wf.cell? ⟨w1.heap.size, 3, none⟩ = some (.int .i64 hd.n) := cell_of_block hfin rfl
  have u4 : Wf.cell? ⟨w1.heap.size, 4, none⟩ = some (.int .i64 hd.d) := cell_of_block hfin rfl
  have u5 : Wf.cell? ⟨w1.heap.size, 5, none⟩ = some (.string ⟨hd.x.toArray⟩) := cell_of_block hfin rfl
  have u6 : Wf.cell? ⟨w1.heap.size, 6, none⟩ = some (.slice ak ks.len ck) := cell_of_block hfin rfl
  refine bodyPost_ret (v := .tuple #[aggOf hd aa ca ak ks.len ck, .bool true]) (by simp [results, Tryz.results94, go_sem, aggOf,  u0, u1, u2, u3, u4, u5, u6]) rfl ?_
  exact ⟨rfl, hbel⟩

set_option maxRecDepth 100000 in
set_option maxHeartbeats 4000000 in
theorem place_more (f : Fo) (b2 o2 cf b off c n : Nat) (j : Nat) (ak : Option Addr) (kn ck : Nat) (h : Hd) (ks : Fo) (aa' : Option Addr) (ca' : Nat) (ak' : Option Addr) (ck' : Nat) (res : Bool) (w1 : World) (hb : b < w1.heap.size) (hl : f.len ≤ 2000000000000) (hn : n ≤ 1000000) (hc : n + 2 ≤ c)
    (hi : w1.cell? ⟨b, off, none⟩ = some (.int .i64 j)) (hj : j < f.len) (hb2 : b2 < w1.heap.size) (q6 : w1.cell? ⟨b2, o2 + j * 7 + 6, none⟩ = some (.slice ak kn ck))
    (HC : ∀ W, Below w1.heap.size w1 W → Calls Tryz.prog 94 #[.slice ak kn ck, .slice (some ⟨b, off + 1, none⟩) (n + 1) (c - 1)] W fun e w' => e = .returned (.tuple #[aggOf h aa' ca' ak' ks.len ck', .bool res]) ∧ Below W.heap.size W w')
    : Calls Tryz.prog 94 #[.slice (some ⟨b2, o2, none⟩) f.len cf, .slice (some ⟨b, off, none⟩) (n + 2) c] w1 fun e w' => e = .returned (.tuple #[aggOf h aa' ca' ak' ks.len ck', .bool res]) ∧ Below w1.heap.size w1 w' := by
  have IN := Lib.hid (fun w => in_any (j : Int) 0 ((f.len : Int) - 1) w)
  rw [show inB (j : Int) 0 ((f.len : Int) - 1) = true by unfold inB; simp; omega] at IN
  have HC' := Lib.hid HC
  clear HC
  have e0 : (((n : Int) + 2) == 0) = false := by simp; omega
  have e1 : (((n : Int) + 2) == 1) = false := by simp; omega
  have kb := World.alloc_heap_new w1 (.cells #[.int .i64 0, .string ⟨#[]⟩, .slice none 0 0, .int .i64 0, .int .i64 0, .string ⟨#[]⟩, .slice none 0 0] 43)
  have B1 : Below w1.heap.size w1 (w1.alloc (.cells #[.int .i64 0, .string ⟨#[]⟩, .slice none 0 0, .int .i64 0, .int .i64 0, .string ⟨#[]⟩, .slice none 0 0] 43)) := (Below.refl _ _).alloc (Nat.le_refl _) _
  have hs1 : w1.heap.size < (w1.alloc (.cells #[.int .i64 0, .string ⟨#[]⟩, .slice none 0 0, .int .i64 0, .int .i64 0, .string ⟨#[]⟩, .slice none 0 0] 43)).heap.size := by simp
  have hiX : (w1.alloc (.cells #[.int .i64 0, .string ⟨#[]⟩, .slice none 0 0, .int .i64 0, .int .i64 0, .string ⟨#[]⟩, .slice none 0 0] 43)).cell? ⟨b, off, none⟩ = some (.int .i64 j) := (World.cell?_of_block (Below.heap_alloc w1 _ b hb)).trans hi
  have r6 : (w1.alloc (.cells #[.int .i64 0, .string ⟨#[]⟩, .slice none 0 0, .int .i64 0, .int .i64 0, .string ⟨#[]⟩, .slice none 0 0] 43)).cell? ⟨b2, o2 + j * 7 + 6, none⟩ = some (.slice ak kn ck) := (World.cell?_of_block (Below.heap_alloc w1 _ b2 hb2)).trans q6
  have nb2 : ¬ b2 = w1.heap.size := by omega
  have nb3 : ¬ w1.heap.size = b2 := by omega
  clear q6
  unfold aggOf at HC' ⊢
  go_enter Tryz.func94, Tryz.ntmps94
  go_upto_region 1 with fail
  generalize w1.alloc (.cells #[.int .i64 0, .string ⟨#[]⟩, .slice none 0 0, .int .i64 0, .int .i64 0, .string ⟨#[]⟩, .slice none 0 0] 43) = X at *
  have z0 : X.cell? ⟨w1.heap.size, 0, none⟩ = some (.int .i64 0) := cell_of_block kb rfl
  have y0 := frozen_of_block (o := 0) kb
  have z1 : X.cell? ⟨w1.heap.size, 1, none⟩ = some (.string ⟨#[]⟩) := cell_of_block kb rfl
  have y1 := frozen_of_block (o := 1) kb
  have z2 : X.cell? ⟨w1.heap.size, 2, none⟩ = some (.slice none 0 0) := cell_of_block kb rfl
  have y2 := frozen_of_block (o := 2) kb
  have z3 : X.cell? ⟨w1.heap.size, 3, none⟩ = some (.int .i64 0) := cell_of_block kb rfl
  have y3 := frozen_of_block (o := 3) kb
  have z4 : X.cell? ⟨w1.heap.size, 4, none⟩ = some (.int .i64 0) := cell_of_block kb rfl
  have y4 := frozen_of_block (o := 4) kb
  have z5 : X.cell? ⟨w1.heap.size, 5, none⟩ = some (.string ⟨#[]⟩) := cell_of_block kb rfl
  have y5 := frozen_of_block (o := 5) kb
  have z6 : X.cell? ⟨w1.heap.size, 6, none⟩ = some (.slice none 0 0) := cell_of_block kb rfl
  have y6 := frozen_of_block (o := 6) kb
  have hbX : b < X.heap.size := by omega
  have hb2X : b2 < X.heap.size := by omega
  have PL := Lib.hid (fun z : Lower X => HC'.out z.val (B1.trans (z.prop.mono B1.size)))
  have KB := Lib.hid kb
  clear kb
  go_wp2_with fail
  refine (IN.out X).mono ?_
  rintro e X2 ⟨rfl, rfl⟩
  go_wp2_with fail
  refine wp_region_quiet_tail (fun w' => ∃ x : Lower _, w' = x.val) 12 (by kernel_rfl) (by kernel_rfl) ⟨⟨_, (Below.refl _ _).drew⟩, rfl⟩ ?_
  simp only [List.take_succ_cons, List.take_zero, List.drop_succ_cons, List.drop_zero]
  repeat (go_big_quiet_step ((go_at_call 94; exact calls_lower _ (PL.out _))))
  refine wpQuiet_nil ?_
  intro w5 hx5
  obtain ⟨x5, hx5⟩ := hx5
  have hb5 := x5.prop
  rw [← hx5] at hb5
  clear hx5 x5
  obtain ⟨hc5, hf5⟩ := bcell hb5
  have hs5 := hb5.size
  try simp at hs5
  try have hz50 : w.heap.size < w5.heap.size := by omega
  try have hz51 : w.heap.size + 1 < w5.heap.size := by omega
  try have hz52 : w.heap.size + 1 + 1 < w5.heap.size := by omega
  try have hz53 : w.heap.size + 1 + 1 + 1 < w5.heap.size := by omega
  try have hz54 : w.heap.size + 1 + 1 + 1 + 1 < w5.heap.size := by omega
  try have hz55 : w.heap.size + 1 + 1 + 1 + 1 + 1 < w5.heap.size := by omega
  try have hy1_5 : w1.heap.size < w5.heap.size := by omega
  try have hy2_5 : w2.heap.size < w5.heap.size := by omega
  try have hy3_5 : w3.heap.size < w5.heap.size := by omega
  try have hy4_5 : w4.heap.size < w5.heap.size := by omega
  have k5 := (hb5.block _ hs1).trans KB.out
  have x0 : w5.cell? ⟨w1.heap.size, 0, none⟩ = some (.int .i64 0) := cell_of_block k5 rfl
  have v0 := frozen_of_block (o := 0) k5
  have x1 : w5.cell? ⟨w1.heap.size, 1, none⟩ = some (.string ⟨#[]⟩) := cell_of_block k5 rfl
  have v1 := frozen_of_block (o := 1) k5
  have x2 : w5.cell? ⟨w1.heap.size, 2, none⟩ = some (.slice none 0 0) := cell_of_block k5 rfl
  have v2 := frozen_of_block (o := 2) k5
  have x3 : w5.cell? ⟨w1.heap.size, 3, none⟩ = some (.int .i64 0) := cell_of_block k5 rfl
  have v3 := frozen_of_block (o := 3) k5
  have x4 : w5.cell? ⟨w1.heap.size, 4, none⟩ = some (.int .i64 0) := cell_of_block k5 rfl
  have v4 := frozen_of_block (o := 4) k5
  have x5 : w5.cell? ⟨w1.heap.size, 5, none⟩ = some (.string ⟨#[]⟩) := cell_of_block k5 rfl
  have v5 := frozen_of_block (o := 5) k5
  have x6 : w5.cell? ⟨w1.heap.size, 6, none⟩ = some (.slice none 0 0) := cell_of_block k5 rfl
  have v6 := frozen_of_block (o := 6) k5
  have KB5 := Lib.hid k5
  have B5 := B1.trans (hb5.mono B1.size)
  clear k5
  go_wp2_with fail
  have hfin := set7_blk (.int .i64 h.k) (.string ⟨h.l.toArray⟩) (.slice aa' h.ats.length ca') (.int .i64 h.n) (.int .i64 h.d) (.string ⟨h.x.toArray⟩) (.slice ak' ks.len ck') KB5.out
  have hbel := set7_below (R := w1.heap.size) (.int .i64 h.k) (.string ⟨h.l.toArray⟩) (.slice aa' h.ats.length ca') (.int .i64 h.n) (.int .i64 h.d) (.string ⟨h.x.toArray⟩) (.slice ak' ks.len ck') B5 (Nat.le_refl _)
  generalize (((((((w5.setCell ⟨w1.heap.size, 0, none⟩ (.int .i64 h.k)).setCell ⟨w1.heap.size, 1, none⟩ (.string ⟨h.l.toArray⟩)).setCell ⟨w1.heap.size, 2, none⟩ (.slice aa' h.ats.length ca')).setCell ⟨w1.heap.size, 3, none⟩ (.int .i64 h.n)).setCell ⟨w1.heap.size, 4, none⟩ (.int .i64 h.d)).setCell ⟨w1.heap.size, 5, none⟩ (.string ⟨h.x.toArray⟩)).setCell ⟨w1.heap.size, 6, none⟩ (.slice ak' ks.len ck')) = Wf at hfin hbel ⊢
  have u0 : Wf.cell? ⟨w1.heap.size, 0, none⟩ = some (.int .i64 h.k) := cell_of_block hfin rfl
  have u1 : Wf.cell? ⟨w1.heap.size, 1, none⟩ = some (.string ⟨h.l.toArray⟩) := cell_of_block hfin rfl
  have u2 : Wf.cell? ⟨w1.heap.size, 2, none⟩ = some (.slice aa' h.ats.length ca') := cell_of_block hfin rfl
  have u3 : Wf.cell? ⟨w1.heap.size, 3, none⟩ = some (.int .i64 h.n) := cell_of_block hfin rfl
  have u4 : Wf.cell? ⟨w1.heap.size, 4, none⟩ = some (.int .i64 h.d) := cell_of_block hfin rfl
  have u5 : Wf.cell? ⟨w1.heap.size, 5, none⟩ = some (.string ⟨h.x.toArray⟩) := cell_of_block hfin rfl
  have u6 : Wf.cell? ⟨w1.heap.size, 6, none⟩ = some (.slice ak' ks.len ck') := cell_of_block hfin rfl
  refine bodyPost_ret (v := .tuple #[aggOf h aa' ca' ak' ks.len ck', .bool res]) (by simp [results, Tryz.results94, go_sem, aggOf,  u0, u1, u2, u3, u4, u5, u6]) rfl ?_
  exact ⟨rfl, hbel⟩

/-- Place gives the tree at a path as it lies, whatever has been laid behind. -/
theorem place_any : ∀ (p : List Int) (f : Fo) (v pv : Value) (w : World), Lies w v f → IntsLie w pv p → p.length ≤ 1000000 →
    ∃ V, PlaceVal w f p V ∧ ∀ w1, Below w.heap.size w w1 → Calls Tryz.prog 94 #[v, pv] w1 fun e w' => e = .returned V ∧ Below w1.heap.size w1 w'
  | [], f, v, pv, w, _, hp, _ => by
    obtain ⟨a, c, rfl⟩ := ints_form hp
    exact ⟨_, PlaceVal.none (by cases f <;> rfl), fun w1 _ => place_nil v a c w1⟩
  | i :: r, f, v, pv, w, hl, hp, hn => by
    have hlen := lies_len hl
    obtain ⟨b, off, c, rfl, hc, hb, hcs⟩ := ints_cells hp (by simp)
    have hi : w.cell? ⟨b, off, none⟩ = some (.int .i64 i) := hcs 0 (by simp)
    simp only [List.length_cons] at hn hc
    cases ho : inB i 0 ((f.len : Int) - 1) with
    | false =>
      obtain ⟨a, ca, rfl⟩ := lies_form hl
      have hno : placeF f (i :: r) = none := by
        unfold placeF
        by_cases h0 : i < 0
        · rw [if_pos h0]
        · rw [if_neg h0]
          have : f.len ≤ i.toNat := by
            unfold inB at ho
            simp at ho
            omega
          rw [Fo.drop_ge _ _ this]
      exact ⟨_, PlaceVal.none hno, fun w1 h1 => place_out f a ca b off c r.length i w1 (Nat.lt_of_lt_of_le hb h1.size) (by omega) hlen ((h1.cell (p := ⟨b, off, none⟩) hb).trans hi) ho⟩
    | true =>
      have h0 : 0 ≤ i ∧ i < f.len := by unfold inB at ho; simp at ho; omega
      obtain ⟨j, rfl⟩ : ∃ j : Nat, i = (j : Int) := ⟨i.toNat, by omega⟩
      have hj : j < f.len := by omega
      obtain ⟨b2, o2, cf, rfl, hcf, -, hb2, hrow⟩ := lies_row hl (by omega)
      obtain ⟨hd, ks, e, ⟨q0, q1, ⟨va, q2, ha⟩, q3, q4, q5⟩, vk, q6, hk⟩ := row_get hrow hj
      obtain ⟨aa, ca, rfl⟩ := attrs_form ha
      obtain ⟨ak, ck, rfl⟩ := lies_form hk
      have hpl : placeF f ((j : Int) :: r) = if r = [] then some (hd, ks) else placeF ks r := by
        rw [placeF, if_neg (by omega), Int.toNat_natCast, e]
      cases r with
      | nil =>
        refine ⟨_, ⟨hd, ks, aa, ca, ak, ck, rfl, ha, hk, .inl (hpl.trans (if_pos rfl))⟩, fun w1 h1 => ?_⟩
        rw [hpl, if_pos rfl]
        exact place_one f b2 o2 cf b off c j hd ks aa ca ak ck w1 (Nat.lt_of_lt_of_le hb h1.size) hlen ((h1.cell (p := ⟨b, off, none⟩) hb).trans hi) hj (Nat.lt_of_lt_of_le hb2 h1.size)
          ((h1.cell (p := ⟨b2, o2 + j * 7, none⟩) hb2).trans q0) ((h1.cell (p := ⟨b2, o2 + j * 7 + 1, none⟩) hb2).trans q1) ((h1.cell (p := ⟨b2, o2 + j * 7 + 2, none⟩) hb2).trans q2) ((h1.cell (p := ⟨b2, o2 + j * 7 + 3, none⟩) hb2).trans q3) ((h1.cell (p := ⟨b2, o2 + j * 7 + 4, none⟩) hb2).trans q4) ((h1.cell (p := ⟨b2, o2 + j * 7 + 5, none⟩) hb2).trans q5) ((h1.cell (p := ⟨b2, o2 + j * 7 + 6, none⟩) hb2).trans q6)
      | cons i2 r2 =>
        have hq : placeF f ((j : Int) :: i2 :: r2) = placeF ks (i2 :: r2) := hpl.trans (if_neg (by simp))
        obtain ⟨V, ⟨h', ks', a1, c1, a2, c2, rfl, hA, hK, hor⟩, hV⟩ := place_any (i2 :: r2) ks _ _ w hk (ints_tail hp) (by simpa using by simp at hn; omega)
        refine ⟨_, ⟨h', ks', a1, c1, a2, c2, rfl, hA, hK, by rw [hq]; exact hor⟩, fun w1 h1 => ?_⟩
        rw [hq]
        simp only [List.length_cons] at hn hc ⊢
        exact place_more f b2 o2 cf b off c r2.length j ak ks.len ck h' ks' a1 c1 a2 c2 _ w1 (Nat.lt_of_lt_of_le hb h1.size) hlen (by omega) (by omega) ((h1.cell (p := ⟨b, off, none⟩) hb).trans hi) hj (Nat.lt_of_lt_of_le hb2 h1.size) ((h1.cell (p := ⟨b2, o2 + j * 7 + 6, none⟩) hb2).trans q6)
          (fun W hW => hV W (h1.trans (hW.mono h1.size)))
end Go.Proofs.YtcgedpfolloinaaGreat

namespace Go.Proofs.YtcgedpfolloinaaGreat
open Go.RowKit

theorem place_size : ∀ {p : List Int} {f : Fo} {h : Hd} {ks : Fo}, placeF f p = some (h, ks) → ks.size + 1 ≤ f.size
  | [], f, h, ks, e => by cases f <;> cases e
  | i :: p, f, h, ks, e => by
    by_cases h0 : i < 0
    · rw [placeF, if_pos h0] at e; cases e
    · rw [placeF, if_neg h0] at e
      have hsz := congrArg Fo.size (Fo.take_app_drop i.toNat f)
      rw [Fo.size_app] at hsz
      cases hd : f.drop i.toNat with
      | nil => rw [hd] at e; cases e
      | cons h1 k1 r1 =>
        rw [hd] at e hsz
        simp only [Fo.size] at hsz
        simp only at e
        by_cases hp : p = []
        · rw [if_pos hp] at e
          obtain ⟨rfl, rfl⟩ := Prod.mk.inj (Option.some.inj e)
          omega
        · rw [if_neg hp] at e
          have := place_size e
          omega
theorem lies_one {w : World} {b : Nat} {h : Hd} {ks : Fo} {aa : Option Addr} {ca : Nat} {ak : Option Addr} {ck : Nat} (hb : w.heap[b]? = some (.cells #[.int .i64 h.k, .string ⟨h.l.toArray⟩, .slice aa h.ats.length ca, .int .i64 h.n, .int .i64 h.d, .string ⟨h.x.toArray⟩, .slice ak ks.len ck] 43)) (ha : AttrsLie w (.slice aa h.ats.length ca) h.ats) (hk : Lies w (.slice ak ks.len ck) ks) :
    Lies w (.slice (some ⟨b, 0, none⟩) 1 1) (.cons h ks .nil) := by
  have hlt : b < w.heap.size := (Array.getElem?_eq_some_iff.1 hb).1
  exact .inr ⟨b, 0, 1, rfl, Nat.le_refl _, by simp [Fo.len], hlt, ⟨⟨cell_of_block hb rfl, cell_of_block hb rfl, ⟨_, cell_of_block hb rfl, ha⟩, cell_of_block hb rfl, cell_of_block hb rfl, cell_of_block hb rfl⟩, ⟨_, cell_of_block hb rfl, hk⟩, trivial⟩⟩
/-- the one tree of a copy. -/
theorem one_of {B : Nat} {w : World} {a : Option Addr} {cap : Nat} {h : Hd} {ks : Fo} (hl : LiesF B w (.slice a 1 cap) (.cons h ks .nil)) : ∃ b o aa ca ak ck, a = some ⟨b, o, none⟩ ∧ B ≤ b ∧ b < w.heap.size ∧ 1 ≤ cap ∧
    AttrsF B w (.slice aa h.ats.length ca) h.ats ∧ LiesF B w (.slice ak ks.len ck) ks ∧ w.cell? ⟨b, o, none⟩ = some (.int .i64 h.k) ∧ w.cell? ⟨b, o + 1, none⟩ = some (.string ⟨h.l.toArray⟩) ∧ w.cell? ⟨b, o + 2, none⟩ = some (.slice aa h.ats.length ca) ∧ w.cell? ⟨b, o + 3, none⟩ = some (.int .i64 h.n) ∧ w.cell? ⟨b, o + 4, none⟩ = some (.int .i64 h.d) ∧ w.cell? ⟨b, o + 5, none⟩ = some (.string ⟨h.x.toArray⟩) ∧ w.cell? ⟨b, o + 6, none⟩ = some (.slice ak ks.len ck) := by
  rcases hl with ⟨a, c, e, h⟩ | ⟨b, o, c, e, h1, h2, h3, h4, ⟨⟨q0, q1, ⟨va, q2, ha⟩, q3, q4, q5⟩, ⟨vk, q6, hk⟩, -⟩⟩
  · cases h
  · simp only [Fo.len, Nat.zero_add, Value.slice.injEq, true_and] at e h1
    obtain ⟨rfl, rfl⟩ := e
    have hk' : LiesF B w vk ks := hk
    obtain ⟨aa, ca, rfl⟩ := attrsF_form ha
    obtain ⟨ak, ck, rfl⟩ := liesF_form hk'
    exact ⟨b, o, aa, ca, ak, ck, rfl, h3, h4, h1, ha, hk', q0, q1, q2, q3, q4, q5, q6⟩

set_option maxRecDepth 100000 in
set_option maxHeartbeats 4000000 in
theorem qat_bad (f : Fo) (p : List Int) (v pv : Value) (w : World) (hl : Lies w v f) (hs : Small f) (hp : IntsLie w pv p) (_ : p.length ≤ 1000000) (he : foErr f ≠ 0) :
    Calls Tryz.prog 32 #[v, pv] w (AtRes w f p) := by
  have CH := Lib.hid (fun W (hW : Below w.heap.size w W) => qcheck_any f v W (lies_below hl hW) hs)
  have HE := Lib.hid (show atErr f p = foErr f by unfold atErr; rw [firstNZ_two, if_pos he])
  have HN := Lib.hid he
  obtain ⟨a, cap, rfl⟩ := lies_form hl
  obtain ⟨pa, pc, rfl⟩ := ints_form hp
  have b0 : (foErr f != 0) = true := by simpa using he
  clear hl hp hs he
  generalize foErr f = ee at *
  go_enter Tryz.func32, Tryz.ntmps32
  go_upto_region 1 with fail
  have k0 := World.alloc_heap_new w (.cells #[.int .i64 0, .string ⟨#[]⟩, .slice none 0 0, .int .i64 0, .int .i64 0, .string ⟨#[]⟩, .slice none 0 0] 43)
  have B0 : Below w.heap.size w (w.alloc (.cells #[.int .i64 0, .string ⟨#[]⟩, .slice none 0 0, .int .i64 0, .int .i64 0, .string ⟨#[]⟩, .slice none 0 0] 43)) := (Below.refl _ _).alloc (Nat.le_refl _) _
  have hs0 : w.heap.size < (w.alloc (.cells #[.int .i64 0, .string ⟨#[]⟩, .slice none 0 0, .int .i64 0, .int .i64 0, .string ⟨#[]⟩, .slice none 0 0] 43)).heap.size := by simp
  generalize w.alloc (.cells #[.int .i64 0, .string ⟨#[]⟩, .slice none 0 0, .int .i64 0, .int .i64 0, .string ⟨#[]⟩, .slice none 0 0] 43) = X0 at *
  have KB0 := Lib.hid k0
  clear k0
  go_wp2_with fail
  refine (CH.out X0 B0).mono ?_
  rintro e X1 ⟨rfl, hb1⟩
  have B1 := B0.trans (hb1.mono B0.size)
  have hs1 : w.heap.size < X1.heap.size := Nat.lt_of_lt_of_le hs0 hb1.size
  have k1 := (hb1.block _ hs0).trans KB0.out
  have KB1 := Lib.hid k1
  clear k1 hb1 B0 KB0 hs0
  have yX1_0 : X1.cell? ⟨w.heap.size, 0, none⟩ = some (.int .i64 0) := cell_of_block KB1.out rfl
  have zX1_0 := frozen_of_block (o := 0) KB1.out
  have yX1_1 : X1.cell? ⟨w.heap.size, 1, none⟩ = some (.string ⟨#[]⟩) := cell_of_block KB1.out rfl
  have zX1_1 := frozen_of_block (o := 1) KB1.out
  have yX1_2 : X1.cell? ⟨w.heap.size, 2, none⟩ = some (.slice none 0 0) := cell_of_block KB1.out rfl
  have zX1_2 := frozen_of_block (o := 2) KB1.out
  have yX1_3 : X1.cell? ⟨w.heap.size, 3, none⟩ = some (.int .i64 0) := cell_of_block KB1.out rfl
  have zX1_3 := frozen_of_block (o := 3) KB1.out
  have yX1_4 : X1.cell? ⟨w.heap.size, 4, none⟩ = some (.int .i64 0) := cell_of_block KB1.out rfl
  have zX1_4 := frozen_of_block (o := 4) KB1.out
  have yX1_5 : X1.cell? ⟨w.heap.size, 5, none⟩ = some (.string ⟨#[]⟩) := cell_of_block KB1.out rfl
  have zX1_5 := frozen_of_block (o := 5) KB1.out
  have yX1_6 : X1.cell? ⟨w.heap.size, 6, none⟩ = some (.slice none 0 0) := cell_of_block KB1.out rfl
  have zX1_6 := frozen_of_block (o := 6) KB1.out
  go_wp2_with fail
  have hfin := set7_blk (.int .i64 0) (.string ⟨#[]⟩) (.slice none 0 0) (.int .i64 0) (.int .i64 0) (.string ⟨#[]⟩) (.slice none 0 0) KB1.out
  have hbel := set7_below (R := w.heap.size) (.int .i64 0) (.string ⟨#[]⟩) (.slice none 0 0) (.int .i64 0) (.int .i64 0) (.string ⟨#[]⟩) (.slice none 0 0) B1 (Nat.le_refl _)
  have hkeep := set7_keeps (R := w.heap.size) (B := w.heap.size + 1) X1 0 1 2 3 4 5 6 (.int .i64 0) (.string ⟨#[]⟩) (.slice none 0 0) (.int .i64 0) (.int .i64 0) (.string ⟨#[]⟩) (.slice none 0 0) (by omega)
  generalize (((((((X1.setCell ⟨w.heap.size, 0, none⟩ (.int .i64 0)).setCell ⟨w.heap.size, 1, none⟩ (.string ⟨#[]⟩)).setCell ⟨w.heap.size, 2, none⟩ (.slice none 0 0)).setCell ⟨w.heap.size, 3, none⟩ (.int .i64 0)).setCell ⟨w.heap.size, 4, none⟩ (.int .i64 0)).setCell ⟨w.heap.size, 5, none⟩ (.string ⟨#[]⟩)).setCell ⟨w.heap.size, 6, none⟩ (.slice none 0 0)) = Wf at hfin hbel hkeep ⊢
  have u0 : Wf.cell? ⟨w.heap.size, 0, none⟩ = some (.int .i64 0) := cell_of_block hfin rfl
  have u1 : Wf.cell? ⟨w.heap.size, 1, none⟩ = some (.string ⟨#[]⟩) := cell_of_block hfin rfl
  have u2 : Wf.cell? ⟨w.heap.size, 2, none⟩ = some (.slice none 0 0) := cell_of_block hfin rfl
  have u3 : Wf.cell? ⟨w.heap.size, 3, none⟩ = some (.int .i64 0) := cell_of_block hfin rfl
  have u4 : Wf.cell? ⟨w.heap.size, 4, none⟩ = some (.int .i64 0) := cell_of_block hfin rfl
  have u5 : Wf.cell? ⟨w.heap.size, 5, none⟩ = some (.string ⟨#[]⟩) := cell_of_block hfin rfl
  have u6 : Wf.cell? ⟨w.heap.size, 6, none⟩ = some (.slice none 0 0) := cell_of_block hfin rfl
  refine bodyPost_ret (v := .tuple #[aggOf zeroHd none 0 none 0 0, .int .i64 (ee)]) (by simp [results, Tryz.results32, go_sem, aggOf, zeroHd, u0, u1, u2, u3, u4, u5, u6]) rfl ?_
  exact ⟨zeroHd, .nil, none, 0, none, 0, by rw [HE.out]; rfl, .inl ⟨_, _, rfl, rfl⟩, .inl ⟨_, _, rfl, rfl⟩, .inr ⟨by rw [HE.out]; exact HN.out, rfl, rfl⟩, hbel⟩

set_option maxRecDepth 100000 in
set_option maxHeartbeats 4000000 in
theorem qat_none (f : Fo) (p : List Int) (v pv : Value) (w : World) (hl : Lies w v f) (hs : Small f) (hp : IntsLie w pv p) (_ : p.length ≤ 1000000) (he : foErr f = 0) (h0 : p = []) :
    Calls Tryz.prog 32 #[v, pv] w (AtRes w f p) := by
  have CH := Lib.hid (fun W (hW : Below w.heap.size w W) => qcheck_any f v W (lies_below hl hW) hs)
  have HE := Lib.hid (show atErr f p = 10 by unfold atErr placeErr; rw [firstNZ_two, he, if_pos h0]; rfl)
  rw [he] at CH
  subst h0
  obtain ⟨a, cap, rfl⟩ := lies_form hl
  obtain ⟨pa, pc, rfl⟩ := ints_form hp
  simp only [List.length_nil] at hp ⊢
  clear hl hp hs he
  go_enter Tryz.func32, Tryz.ntmps32
  go_upto_region 1 with fail
  have k0 := World.alloc_heap_new w (.cells #[.int .i64 0, .string ⟨#[]⟩, .slice none 0 0, .int .i64 0, .int .i64 0, .string ⟨#[]⟩, .slice none 0 0] 43)
  have B0 : Below w.heap.size w (w.alloc (.cells #[.int .i64 0, .string ⟨#[]⟩, .slice none 0 0, .int .i64 0, .int .i64 0, .string ⟨#[]⟩, .slice none 0 0] 43)) := (Below.refl _ _).alloc (Nat.le_refl _) _
  have hs0 : w.heap.size < (w.alloc (.cells #[.int .i64 0, .string ⟨#[]⟩, .slice none 0 0, .int .i64 0, .int .i64 0, .string ⟨#[]⟩, .slice none 0 0] 43)).heap.size := by simp
  generalize w.alloc (.cells #[.int .i64 0, .string ⟨#[]⟩, .slice none 0 0, .int .i64 0, .int .i64 0, .string ⟨#[]⟩, .slice none 0 0] 43) = X0 at *
  have KB0 := Lib.hid k0
  clear k0
  go_wp2_with fail
  refine (CH.out X0 B0).mono ?_
  rintro e X1 ⟨rfl, hb1⟩
  have B1 := B0.trans (hb1.mono B0.size)
  have hs1 : w.heap.size < X1.heap.size := Nat.lt_of_lt_of_le hs0 hb1.size
  have k1 := (hb1.block _ hs0).trans KB0.out
  have KB1 := Lib.hid k1
  clear k1 hb1 B0 KB0 hs0
  have yX1_0 : X1.cell? ⟨w.heap.size, 0, none⟩ = some (.int .i64 0) := cell_of_block KB1.out rfl
  have zX1_0 := frozen_of_block (o := 0) KB1.out
  have yX1_1 : X1.cell? ⟨w.heap.size, 1, none⟩ = some (.string ⟨#[]⟩) := cell_of_block KB1.out rfl
  have zX1_1 := frozen_of_block (o := 1) KB1.out
  have yX1_2 : X1.cell? ⟨w.heap.size, 2, none⟩ = some (.slice none 0 0) := cell_of_block KB1.out rfl
  have zX1_2 := frozen_of_block (o := 2) KB1.out
  have yX1_3 : X1.cell? ⟨w.heap.size, 3, none⟩ = some (.int .i64 0) := cell_of_block KB1.out rfl
  have zX1_3 := frozen_of_block (o := 3) KB1.out
  have yX1_4 : X1.cell? ⟨w.heap.size, 4, none⟩ = some (.int .i64 0) := cell_of_block KB1.out rfl
  have zX1_4 := frozen_of_block (o := 4) KB1.out
  have yX1_5 : X1.cell? ⟨w.heap.size, 5, none⟩ = some (.string ⟨#[]⟩) := cell_of_block KB1.out rfl
  have zX1_5 := frozen_of_block (o := 5) KB1.out
  have yX1_6 : X1.cell? ⟨w.heap.size, 6, none⟩ = some (.slice none 0 0) := cell_of_block KB1.out rfl
  have zX1_6 := frozen_of_block (o := 6) KB1.out
  go_wp2_with fail
  have hfin := set7_blk (.int .i64 0) (.string ⟨#[]⟩) (.slice none 0 0) (.int .i64 0) (.int .i64 0) (.string ⟨#[]⟩) (.slice none 0 0) KB1.out
  have hbel := set7_below (R := w.heap.size) (.int .i64 0) (.string ⟨#[]⟩) (.slice none 0 0) (.int .i64 0) (.int .i64 0) (.string ⟨#[]⟩) (.slice none 0 0) B1 (Nat.le_refl _)
  have hkeep := set7_keeps (R := w.heap.size) (B := w.heap.size + 1) X1 0 1 2 3 4 5 6 (.int .i64 0) (.string ⟨#[]⟩) (.slice none 0 0) (.int .i64 0) (.int .i64 0) (.string ⟨#[]⟩) (.slice none 0 0) (by omega)
  generalize (((((((X1.setCell ⟨w.heap.size, 0, none⟩ (.int .i64 0)).setCell ⟨w.heap.size, 1, none⟩ (.string ⟨#[]⟩)).setCell ⟨w.heap.size, 2, none⟩ (.slice none 0 0)).setCell ⟨w.heap.size, 3, none⟩ (.int .i64 0)).setCell ⟨w.heap.size, 4, none⟩ (.int .i64 0)).setCell ⟨w.heap.size, 5, none⟩ (.string ⟨#[]⟩)).setCell ⟨w.heap.size, 6, none⟩ (.slice none 0 0)) = Wf at hfin hbel hkeep ⊢
  have u0 : Wf.cell? ⟨w.heap.size, 0, none⟩ = some (.int .i64 0) := cell_of_block hfin rfl
  have u1 : Wf.cell? ⟨w.heap.size, 1, none⟩ = some (.string ⟨#[]⟩) := cell_of_block hfin rfl
  have u2 : Wf.cell? ⟨w.heap.size, 2, none⟩ = some (.slice none 0 0) := cell_of_block hfin rfl
  have u3 : Wf.cell? ⟨w.heap.size, 3, none⟩ = some (.int .i64 0) := cell_of_block hfin rfl
  have u4 : Wf.cell? ⟨w.heap.size, 4, none⟩ = some (.int .i64 0) := cell_of_block hfin rfl
  have u5 : Wf.cell? ⟨w.heap.size, 5, none⟩ = some (.string ⟨#[]⟩) := cell_of_block hfin rfl
  have u6 : Wf.cell? ⟨w.heap.size, 6, none⟩ = some (.slice none 0 0) := cell_of_block hfin rfl
  refine bodyPost_ret (v := .tuple #[aggOf zeroHd none 0 none 0 0, .int .i64 (10)]) (by simp [results, Tryz.results32, go_sem, aggOf, zeroHd, u0, u1, u2, u3, u4, u5, u6]) rfl ?_
  exact ⟨zeroHd, .nil, none, 0, none, 0, by rw [HE.out]; rfl, .inl ⟨_, _, rfl, rfl⟩, .inl ⟨_, _, rfl, rfl⟩, .inr ⟨by rw [HE.out]; exact (by decide), rfl, rfl⟩, hbel⟩

set_option maxRecDepth 100000 in
set_option maxHeartbeats 4000000 in
theorem qat_absent (f : Fo) (p : List Int) (v pv : Value) (w : World) (hl : Lies w v f) (hs : Small f) (hp : IntsLie w pv p) (hpl : p.length ≤ 1000000) (he : foErr f = 0) (h0 : p ≠ []) (hno : placeF f p = none) :
    Calls Tryz.prog 32 #[v, pv] w (AtRes w f p) := by
  have CH := Lib.hid (fun W (hW : Below w.heap.size w W) => qcheck_any f v W (lies_below hl hW) hs)
  have HE := Lib.hid (show atErr f p = 6 by unfold atErr placeErr; rw [firstNZ_two, he, if_neg h0, hno]; rfl)
  rw [he] at CH
  obtain ⟨V, ⟨h, ks, aa, ca, ak, ck, rfl, hA, hK, hor⟩, hV⟩ := place_any p f v pv w hl hp hpl
  have PV := Lib.hid hV
  clear hV
  rw [hno] at hor PV
  obtain ⟨rfl, rfl, rfl, rfl, rfl, rfl⟩ : h = zeroHd ∧ ks = .nil ∧ aa = none ∧ ca = 0 ∧ ak = none ∧ ck = 0 := by
    rcases hor with e | ⟨-, e⟩
    · cases e
    · exact e
  unfold aggOf zeroHd at PV
  simp only [Fo.len, List.length_nil, Option.isSome_none] at PV
  obtain ⟨a, cap, rfl⟩ := lies_form hl
  obtain ⟨pa, pc, rfl⟩ := ints_form hp
  have e0 : ((p.length : Int) == 0) = false := by simp; exact h0
  clear hl hp hs he hA hK hor hno h0
  go_enter Tryz.func32, Tryz.ntmps32
  go_upto_region 1 with fail
  have k0 := World.alloc_heap_new w (.cells #[.int .i64 0, .string ⟨#[]⟩, .slice none 0 0, .int .i64 0, .int .i64 0, .string ⟨#[]⟩, .slice none 0 0] 43)
  have B0 : Below w.heap.size w (w.alloc (.cells #[.int .i64 0, .string ⟨#[]⟩, .slice none 0 0, .int .i64 0, .int .i64 0, .string ⟨#[]⟩, .slice none 0 0] 43)) := (Below.refl _ _).alloc (Nat.le_refl _) _
  have hs0 : w.heap.size < (w.alloc (.cells #[.int .i64 0, .string ⟨#[]⟩, .slice none 0 0, .int .i64 0, .int .i64 0, .string ⟨#[]⟩, .slice none 0 0] 43)).heap.size := by simp
  generalize w.alloc (.cells #[.int .i64 0, .string ⟨#[]⟩, .slice none 0 0, .int .i64 0, .int .i64 0, .string ⟨#[]⟩, .slice none 0 0] 43) = X0 at *
  have KB0 := Lib.hid k0
  clear k0
  go_wp2_with fail
  refine (CH.out X0 B0).mono ?_
  rintro e X1 ⟨rfl, hb1⟩
  have B1 := B0.trans (hb1.mono B0.size)
  have hs1 : w.heap.size < X1.heap.size := Nat.lt_of_lt_of_le hs0 hb1.size
  have k1 := (hb1.block _ hs0).trans KB0.out
  have KB1 := Lib.hid k1
  clear k1 hb1 B0 KB0 hs0
  go_wp2_with fail
  refine (PV.out X1 B1).mono ?_
  rintro e X2 ⟨rfl, hb2⟩
  have B2 := B1.trans (hb2.mono B1.size)
  have hs2 : w.heap.size < X2.heap.size := Nat.lt_of_lt_of_le hs1 hb2.size
  have k2 := (hb2.block _ hs1).trans KB1.out
  have KB2 := Lib.hid k2
  clear k2 hb2 B1 KB1
  go_upto_region 7 with fail
  have k3 := World.alloc_heap_new X2 (.cells #[.int .i64 0, .string ⟨#[]⟩, .slice none 0 0, .int .i64 0, .int .i64 0, .string ⟨#[]⟩, .slice none 0 0] 43)
  have kz3 : (X2.alloc (.cells #[.int .i64 0, .string ⟨#[]⟩, .slice none 0 0, .int .i64 0, .int .i64 0, .string ⟨#[]⟩, .slice none 0 0] 43)).heap[w.heap.size]? = _ := (Below.heap_alloc _ _ _ hs2).trans KB2.out
  have B3 : Below w.heap.size w (X2.alloc (.cells #[.int .i64 0, .string ⟨#[]⟩, .slice none 0 0, .int .i64 0, .int .i64 0, .string ⟨#[]⟩, .slice none 0 0] 43)) := B2.alloc (by omega) _
  have hs3 : X2.heap.size < (X2.alloc (.cells #[.int .i64 0, .string ⟨#[]⟩, .slice none 0 0, .int .i64 0, .int .i64 0, .string ⟨#[]⟩, .slice none 0 0] 43)).heap.size := by simp
  generalize X2.alloc (.cells #[.int .i64 0, .string ⟨#[]⟩, .slice none 0 0, .int .i64 0, .int .i64 0, .string ⟨#[]⟩, .slice none 0 0] 43) = X3 at *
  have KB3 := Lib.hid kz3
  have KT3 := Lib.hid k3
  have hsb : w.heap.size < X3.heap.size := by omega
  have yX3_0 : X3.cell? ⟨w.heap.size, 0, none⟩ = some (.int .i64 0) := cell_of_block KB3.out rfl
  have zX3_0 := frozen_of_block (o := 0) KB3.out
  have yX3_1 : X3.cell? ⟨w.heap.size, 1, none⟩ = some (.string ⟨#[]⟩) := cell_of_block KB3.out rfl
  have zX3_1 := frozen_of_block (o := 1) KB3.out
  have yX3_2 : X3.cell? ⟨w.heap.size, 2, none⟩ = some (.slice none 0 0) := cell_of_block KB3.out rfl
  have zX3_2 := frozen_of_block (o := 2) KB3.out
  have yX3_3 : X3.cell? ⟨w.heap.size, 3, none⟩ = some (.int .i64 0) := cell_of_block KB3.out rfl
  have zX3_3 := frozen_of_block (o := 3) KB3.out
  have yX3_4 : X3.cell? ⟨w.heap.size, 4, none⟩ = some (.int .i64 0) := cell_of_block KB3.out rfl
  have zX3_4 := frozen_of_block (o := 4) KB3.out
  have yX3_5 : X3.cell? ⟨w.heap.size, 5, none⟩ = some (.string ⟨#[]⟩) := cell_of_block KB3.out rfl
  have zX3_5 := frozen_of_block (o := 5) KB3.out
  have yX3_6 : X3.cell? ⟨w.heap.size, 6, none⟩ = some (.slice none 0 0) := cell_of_block KB3.out rfl
  have zX3_6 := frozen_of_block (o := 6) KB3.out
  clear k3 kz3
  go_wp2_with fail
  have hfin := set7_blk (.int .i64 0) (.string ⟨#[]⟩) (.slice none 0 0) (.int .i64 0) (.int .i64 0) (.string ⟨#[]⟩) (.slice none 0 0) KB3.out
  have hbel := set7_below (R := w.heap.size) (.int .i64 0) (.string ⟨#[]⟩) (.slice none 0 0) (.int .i64 0) (.int .i64 0) (.string ⟨#[]⟩) (.slice none 0 0) B3 (Nat.le_refl _)
  have hkeep := set7_keeps (R := w.heap.size) (B := w.heap.size + 1) X3 0 1 2 3 4 5 6 (.int .i64 0) (.string ⟨#[]⟩) (.slice none 0 0) (.int .i64 0) (.int .i64 0) (.string ⟨#[]⟩) (.slice none 0 0) (by omega)
  generalize (((((((X3.setCell ⟨w.heap.size, 0, none⟩ (.int .i64 0)).setCell ⟨w.heap.size, 1, none⟩ (.string ⟨#[]⟩)).setCell ⟨w.heap.size, 2, none⟩ (.slice none 0 0)).setCell ⟨w.heap.size, 3, none⟩ (.int .i64 0)).setCell ⟨w.heap.size, 4, none⟩ (.int .i64 0)).setCell ⟨w.heap.size, 5, none⟩ (.string ⟨#[]⟩)).setCell ⟨w.heap.size, 6, none⟩ (.slice none 0 0)) = Wf at hfin hbel hkeep ⊢
  have u0 : Wf.cell? ⟨w.heap.size, 0, none⟩ = some (.int .i64 0) := cell_of_block hfin rfl
  have u1 : Wf.cell? ⟨w.heap.size, 1, none⟩ = some (.string ⟨#[]⟩) := cell_of_block hfin rfl
  have u2 : Wf.cell? ⟨w.heap.size, 2, none⟩ = some (.slice none 0 0) := cell_of_block hfin rfl
  have u3 : Wf.cell? ⟨w.heap.size, 3, none⟩ = some (.int .i64 0) := cell_of_block hfin rfl
  have u4 : Wf.cell? ⟨w.heap.size, 4, none⟩ = some (.int .i64 0) := cell_of_block hfin rfl
  have u5 : Wf.cell? ⟨w.heap.size, 5, none⟩ = some (.string ⟨#[]⟩) := cell_of_block hfin rfl
  have u6 : Wf.cell? ⟨w.heap.size, 6, none⟩ = some (.slice none 0 0) := cell_of_block hfin rfl
  refine bodyPost_ret (v := .tuple #[aggOf zeroHd none 0 none 0 0, .int .i64 (6)]) (by simp [results, Tryz.results32, go_sem, aggOf, zeroHd, u0, u1, u2, u3, u4, u5, u6]) rfl ?_
  exact ⟨zeroHd, .nil, none, 0, none, 0, by rw [HE.out]; rfl, .inl ⟨_, _, rfl, rfl⟩, .inl ⟨_, _, rfl, rfl⟩, .inr ⟨by rw [HE.out]; exact (by decide), rfl, rfl⟩, hbel⟩

set_option maxRecDepth 100000 in
set_option maxHeartbeats 4000000 in
theorem qat_there (f : Fo) (p : List Int) (v pv : Value) (w : World) (hl : Lies w v f) (hs : Small f) (hp : IntsLie w pv p) (hpl : p.length ≤ 1000000) (he : foErr f = 0) (h0 : p ≠ []) (hd0 : Hd) (ks0 : Fo) (hno : placeF f p = some (hd0, ks0)) :
    Calls Tryz.prog 32 #[v, pv] w (AtRes w f p) := by
  have CH := Lib.hid (fun W (hW : Below w.heap.size w W) => qcheck_any f v W (lies_below hl hW) hs)
  have HE := Lib.hid (show atErr f p = 0 by unfold atErr placeErr; rw [firstNZ_two, he, if_neg h0, hno]; rfl)
  rw [he] at CH
  obtain ⟨V, ⟨h, ks, aa, ca, ak, ck, rfl, hA, hK, hor⟩, hV⟩ := place_any p f v pv w hl hp hpl
  have PV := Lib.hid hV
  clear hV
  have hsz := place_size hno
  have hfs := hs.size
  have HPL := Lib.hid hno
  rw [hno] at hor PV
  obtain ⟨rfl, rfl⟩ : h = hd0 ∧ ks = ks0 := by
    rcases hor with e | ⟨e, -⟩
    · exact Prod.mk.inj (Option.some.inj e.symm)
    · cases e
  unfold aggOf at PV
  simp only [Option.isSome_some] at PV
  have HC := Lib.hid (fun v W (hh : Lies W v (.cons h ks .nil)) => copyOf_any _ (.cons h ks .nil) (Nat.le_refl _) (by simp [Fo.size]; omega) v W hh)
  obtain ⟨a, cap, rfl⟩ := lies_form hl
  obtain ⟨pa, pc, rfl⟩ := ints_form hp
  have e0 : ((p.length : Int) == 0) = false := by simp; exact h0
  have HA := Lib.hid hA
  have HK := Lib.hid hK
  clear hl hp hs he hA hK hor hno h0
  go_enter Tryz.func32, Tryz.ntmps32
  go_upto_region 1 with fail
  have k0 := World.alloc_heap_new w (.cells #[.int .i64 0, .string ⟨#[]⟩, .slice none 0 0, .int .i64 0, .int .i64 0, .string ⟨#[]⟩, .slice none 0 0] 43)
  have B0 : Below w.heap.size w (w.alloc (.cells #[.int .i64 0, .string ⟨#[]⟩, .slice none 0 0, .int .i64 0, .int .i64 0, .string ⟨#[]⟩, .slice none 0 0] 43)) := (Below.refl _ _).alloc (Nat.le_refl _) _
  have hs0 : w.heap.size < (w.alloc (.cells #[.int .i64 0, .string ⟨#[]⟩, .slice none 0 0, .int .i64 0, .int .i64 0, .string ⟨#[]⟩, .slice none 0 0] 43)).heap.size := by simp
  generalize w.alloc (.cells #[.int .i64 0, .string ⟨#[]⟩, .slice none 0 0, .int .i64 0, .int .i64 0, .string ⟨#[]⟩, .slice none 0 0] 43) = X0 at *
  have KB0 := Lib.hid k0
  clear k0
  go_wp2_with fail
  refine (CH.out X0 B0).mono ?_
  rintro e X1 ⟨rfl, hb1⟩
  have B1 := B0.trans (hb1.mono B0.size)
  have hs1 : w.heap.size < X1.heap.size := Nat.lt_of_lt_of_le hs0 hb1.size
  have k1 := (hb1.block _ hs0).trans KB0.out
  have KB1 := Lib.hid k1
  clear k1 hb1 B0 KB0 hs0
  go_wp2_with fail
  refine (PV.out X1 B1).mono ?_
  rintro e X2 ⟨rfl, hb2⟩
  have B2 := B1.trans (hb2.mono B1.size)
  have hs2 : w.heap.size < X2.heap.size := Nat.lt_of_lt_of_le hs1 hb2.size
  have k2 := (hb2.block _ hs1).trans KB1.out
  have KB2 := Lib.hid k2
  clear k2 hb2 B1 KB1
  go_upto_region 7 with fail
  have k3 := World.alloc_heap_new X2 (.cells #[.int .i64 h.k, .string ⟨h.l.toArray⟩, .slice aa h.ats.length ca, .int .i64 h.n, .int .i64 h.d, .string ⟨h.x.toArray⟩, .slice ak ks.len ck] 43)
  have kz3 : (X2.alloc (.cells #[.int .i64 h.k, .string ⟨h.l.toArray⟩, .slice aa h.ats.length ca, .int .i64 h.n, .int .i64 h.d, .string ⟨h.x.toArray⟩, .slice ak ks.len ck] 43)).heap[w.heap.size]? = _ := (Below.heap_alloc _ _ _ hs2).trans KB2.out
  have B3 : Below w.heap.size w (X2.alloc (.cells #[.int .i64 h.k, .string ⟨h.l.toArray⟩, .slice aa h.ats.length ca, .int .i64 h.n, .int .i64 h.d, .string ⟨h.x.toArray⟩, .slice ak ks.len ck] 43)) := B2.alloc (by omega) _
  have hs3 : X2.heap.size < (X2.alloc (.cells #[.int .i64 h.k, .string ⟨h.l.toArray⟩, .slice aa h.ats.length ca, .int .i64 h.n, .int .i64 h.d, .string ⟨h.x.toArray⟩, .slice ak ks.len ck] 43)).heap.size := by simp
  generalize X2.alloc (.cells #[.int .i64 h.k, .string ⟨h.l.toArray⟩, .slice aa h.ats.length ca, .int .i64 h.n, .int .i64 h.d, .string ⟨h.x.toArray⟩, .slice ak ks.len ck] 43) = X3 at *
  have KB3 := Lib.hid kz3
  have KT3 := Lib.hid k3
  have hsb : w.heap.size < X3.heap.size := by omega
  have y0 : X3.cell? ⟨X2.heap.size, 0, none⟩ = some (.int .i64 h.k) := cell_of_block k3 rfl
  have y1 : X3.cell? ⟨X2.heap.size, 1, none⟩ = some (.string ⟨h.l.toArray⟩) := cell_of_block k3 rfl
  have y2 : X3.cell? ⟨X2.heap.size, 2, none⟩ = some (.slice aa h.ats.length ca) := cell_of_block k3 rfl
  have y3 : X3.cell? ⟨X2.heap.size, 3, none⟩ = some (.int .i64 h.n) := cell_of_block k3 rfl
  have y4 : X3.cell? ⟨X2.heap.size, 4, none⟩ = some (.int .i64 h.d) := cell_of_block k3 rfl
  have y5 : X3.cell? ⟨X2.heap.size, 5, none⟩ = some (.string ⟨h.x.toArray⟩) := cell_of_block k3 rfl
  have y6 : X3.cell? ⟨X2.heap.size, 6, none⟩ = some (.slice ak ks.len ck) := cell_of_block k3 rfl
  clear k3 kz3
  go_wp2_with fail
  have B4 : Below w.heap.size w (X3.alloc (.cells #[.int .i64 h.k, .string ⟨h.l.toArray⟩, .slice aa h.ats.length ca, .int .i64 h.n, .int .i64 h.d, .string ⟨h.x.toArray⟩, .slice ak ks.len ck] 43)) := B3.alloc (by omega) _
  have L4 := lies_one (World.alloc_heap_new X3 (.cells #[.int .i64 h.k, .string ⟨h.l.toArray⟩, .slice aa h.ats.length ca, .int .i64 h.n, .int .i64 h.d, .string ⟨h.x.toArray⟩, .slice ak ks.len ck] 43)) (attrs_below HA.out B4) (lies_below HK.out B4)
  have kz4 : (X3.alloc (.cells #[.int .i64 h.k, .string ⟨h.l.toArray⟩, .slice aa h.ats.length ca, .int .i64 h.n, .int .i64 h.d, .string ⟨h.x.toArray⟩, .slice ak ks.len ck] 43)).heap[w.heap.size]? = _ := (Below.heap_alloc _ _ _ hsb).trans KB3.out
  have hs4 : w.heap.size < (X3.alloc (.cells #[.int .i64 h.k, .string ⟨h.l.toArray⟩, .slice aa h.ats.length ca, .int .i64 h.n, .int .i64 h.d, .string ⟨h.x.toArray⟩, .slice ak ks.len ck] 43)).heap.size := by simp; omega
  generalize X3.alloc (.cells #[.int .i64 h.k, .string ⟨h.l.toArray⟩, .slice aa h.ats.length ca, .int .i64 h.n, .int .i64 h.d, .string ⟨h.x.toArray⟩, .slice ak ks.len ck] 43) = X4 at *
  refine (HC.out _ X4 L4).mono ?_
  rintro e X5 ⟨a5, c5, rfl, hl5, hb5⟩
  obtain ⟨b5, o5, aa2, ca2, ak2, ck2, rfl, hB5, hb5', hc5, hA5, hK5, q0, q1, q2, q3, q4, q5, q6⟩ := one_of hl5
  have B5 := B4.trans (hb5.mono B4.size)
  have kz5 := (hb5.block _ hs4).trans kz4
  have KB5 := Lib.hid kz5
  have nb5 : ¬ b5 = w.heap.size := by omega
  have nb6 : ¬ w.heap.size = b5 := by omega
  have HA5 := Lib.hid (attrsF_mono (B' := w.heap.size + 1) (by omega) hA5)
  have HK5 := Lib.hid (liesF_mono (B' := w.heap.size + 1) (by omega) hK5)
  simp only [Fo.len, Nat.zero_add]
  clear y0 y1 y2 y3 y4 y5 y6 hl5 kz4 L4 hA5 hK5
  have yX5_0 : X5.cell? ⟨w.heap.size, 0, none⟩ = some (.int .i64 0) := cell_of_block kz5 rfl
  have zX5_0 := frozen_of_block (o := 0) kz5
  have yX5_1 : X5.cell? ⟨w.heap.size, 1, none⟩ = some (.string ⟨#[]⟩) := cell_of_block kz5 rfl
  have zX5_1 := frozen_of_block (o := 1) kz5
  have yX5_2 : X5.cell? ⟨w.heap.size, 2, none⟩ = some (.slice none 0 0) := cell_of_block kz5 rfl
  have zX5_2 := frozen_of_block (o := 2) kz5
  have yX5_3 : X5.cell? ⟨w.heap.size, 3, none⟩ = some (.int .i64 0) := cell_of_block kz5 rfl
  have zX5_3 := frozen_of_block (o := 3) kz5
  have yX5_4 : X5.cell? ⟨w.heap.size, 4, none⟩ = some (.int .i64 0) := cell_of_block kz5 rfl
  have zX5_4 := frozen_of_block (o := 4) kz5
  have yX5_5 : X5.cell? ⟨w.heap.size, 5, none⟩ = some (.string ⟨#[]⟩) := cell_of_block kz5 rfl
  have zX5_5 := frozen_of_block (o := 5) kz5
  have yX5_6 : X5.cell? ⟨w.heap.size, 6, none⟩ = some (.slice none 0 0) := cell_of_block kz5 rfl
  have zX5_6 := frozen_of_block (o := 6) kz5
  clear kz5
  go_wp2_with fail
  have hfin := set7_blk (.int .i64 h.k) (.string ⟨h.l.toArray⟩) (.slice aa2 h.ats.length ca2) (.int .i64 h.n) (.int .i64 h.d) (.string ⟨h.x.toArray⟩) (.slice ak2 ks.len ck2) KB5.out
  have hbel := set7_below (R := w.heap.size) (.int .i64 h.k) (.string ⟨h.l.toArray⟩) (.slice aa2 h.ats.length ca2) (.int .i64 h.n) (.int .i64 h.d) (.string ⟨h.x.toArray⟩) (.slice ak2 ks.len ck2) B5 (Nat.le_refl _)
  have hkeep := set7_keeps (R := w.heap.size) (B := w.heap.size + 1) X5 0 1 2 3 4 5 6 (.int .i64 h.k) (.string ⟨h.l.toArray⟩) (.slice aa2 h.ats.length ca2) (.int .i64 h.n) (.int .i64 h.d) (.string ⟨h.x.toArray⟩) (.slice ak2 ks.len ck2) (by omega)
  generalize (((((((X5.setCell ⟨w.heap.size, 0, none⟩ (.int .i64 h.k)).setCell ⟨w.heap.size, 1, none⟩ (.string ⟨h.l.toArray⟩)).setCell ⟨w.heap.size, 2, none⟩ (.slice aa2 h.ats.length ca2)).setCell ⟨w.heap.size, 3, none⟩ (.int .i64 h.n)).setCell ⟨w.heap.size, 4, none⟩ (.int .i64 h.d)).setCell ⟨w.heap.size, 5, none⟩ (.string ⟨h.x.toArray⟩)).setCell ⟨w.heap.size, 6, none⟩ (.slice ak2 ks.len ck2)) = Wf at hfin hbel hkeep ⊢
  have u0 : Wf.cell? ⟨w.heap.size, 0, none⟩ = some (.int .i64 h.k) := cell_of_block hfin rfl
  have u1 : Wf.cell? ⟨w.heap.size, 1, none⟩ = some (.string ⟨h.l.toArray⟩) := cell_of_block hfin rfl
  have u2 : Wf.cell? ⟨w.heap.size, 2, none⟩ = some (.slice aa2 h.ats.length ca2) := cell_of_block hfin rfl
  have u3 : Wf.cell? ⟨w.heap.size, 3, none⟩ = some (.int .i64 h.n) := cell_of_block hfin rfl
  have u4 : Wf.cell? ⟨w.heap.size, 4, none⟩ = some (.int .i64 h.d) := cell_of_block hfin rfl
  have u5 : Wf.cell? ⟨w.heap.size, 5, none⟩ = some (.string ⟨h.x.toArray⟩) := cell_of_block hfin rfl
  have u6 : Wf.cell? ⟨w.heap.size, 6, none⟩ = some (.slice ak2 ks.len ck2) := cell_of_block hfin rfl
  refine bodyPost_ret (v := .tuple #[aggOf h aa2 ca2 ak2 ks.len ck2, .int .i64 (0)]) (by simp [results, Tryz.results32, go_sem, aggOf,  u0, u1, u2, u3, u4, u5, u6]) rfl ?_
  exact ⟨h, ks, aa2, ca2, ak2, ck2, by rw [HE.out], attrsF_mono (by omega) (attrsF_keeps HA5.out hkeep), liesF_mono (by omega) (liesF_keeps HK5.out hkeep), .inl ⟨HE.out, HPL.out⟩, hbel⟩

theorem qat_any (f : Fo) (p : List Int) (v pv : Value) (w : World) (hl : Lies w v f) (hs : Small f) (hp : IntsLie w pv p) (hpl : p.length ≤ 1000000) : Calls Tryz.prog 32 #[v, pv] w (AtRes w f p) := by
  by_cases he : foErr f = 0
  · by_cases h0 : p = []
    · exact qat_none f p v pv w hl hs hp hpl he h0
    · cases hno : placeF f p with
      | none => exact qat_absent f p v pv w hl hs hp hpl he h0 hno
      | some x => exact qat_there f p v pv w hl hs hp hpl he h0 x.1 x.2 hno
  · exact qat_bad f p v pv w hl hs hp hpl he
end Go.Proofs.YtcgedpfolloinaaGreat

namespace Go.Proofs.YtcgedpfolloinaaGreat
open Go.RowKit

def kidsV (f : Fo) (p : List Int) : Fo × Int :=
  if foErr f ≠ 0 then (.nil, foErr f) else if p = [] then (f, 0) else match placeF f p with
    | none => (.nil, 6)
    | some (h, ks) => if h.k ≠ 0 then (.nil, 9) else (ks, 0)
def FoRes (w : World) (r : Fo × Int) (e : Ending) (w' : World) : Prop :=
  ∃ a cap, e = .returned (.tuple #[.slice a r.1.len cap, .int .i64 r.2]) ∧ LiesF w.heap.size w' (.slice a r.1.len cap) r.1 ∧ Below w.heap.size w w'
theorem FoRes.none {w w' : World} {er : Int} (h : Below w.heap.size w w') : FoRes w (.nil, er) (.returned (.tuple #[.slice .none 0 0, .int .i64 er])) w' := ⟨.none, 0, rfl, .inl ⟨_, _, rfl, rfl⟩, h⟩

set_option maxRecDepth 100000 in
set_option maxHeartbeats 4000000 in
theorem qkids_bad (f : Fo) (p : List Int) (v pv : Value) (w : World) (hl : Lies w v f) (hs : Small f) (hp : IntsLie w pv p) (_ : p.length ≤ 1000000) (he : foErr f ≠ 0) :
    Calls Tryz.prog 34 #[v, pv] w (FoRes w (kidsV f p)) := by
  have CH := Lib.hid (fun W (hW : Below w.heap.size w W) => qcheck_any f v W (lies_below hl hW) hs)
  have B0 := Below.refl w.heap.size w
  rw [show kidsV f p = (.nil, foErr f) by unfold kidsV; rw [if_pos he]]
  obtain ⟨a, cap, rfl⟩ := lies_form hl
  obtain ⟨pa, pc, rfl⟩ := ints_form hp
  have b0 : (foErr f != 0) = true := by simpa using he
  clear hl hp hs he
  generalize foErr f = ee at *
  go_enter Tryz.func34, Tryz.ntmps34
  go_wp2_with fail
  refine (CH.out w B0).mono ?_
  rintro e X1 ⟨rfl, hb1⟩
  have B1 := B0.trans (hb1.mono B0.size)
  clear hb1
  go_wp2_with fail
  go_ret2
  exact FoRes.none B1

set_option maxRecDepth 100000 in
set_option maxHeartbeats 4000000 in
theorem qkids_nil (f : Fo) (p : List Int) (v pv : Value) (w : World) (hl : Lies w v f) (hs : Small f) (hp : IntsLie w pv p) (_ : p.length ≤ 1000000) (he : foErr f = 0) (h0 : p = []) :
    Calls Tryz.prog 34 #[v, pv] w (FoRes w (kidsV f p)) := by
  have CH := Lib.hid (fun W (hW : Below w.heap.size w W) => qcheck_any f v W (lies_below hl hW) hs)
  have B0 := Below.refl w.heap.size w
  rw [show kidsV f p = (f, 0) by unfold kidsV; rw [if_neg (by simpa using he), if_pos h0]]
  rw [he] at CH
  subst h0
  have hfs := hs.size
  have HC := Lib.hid (fun W (hW : Below w.heap.size w W) => copyOf_any _ f (Nat.le_refl _) (by omega) v W (lies_below hl hW))
  obtain ⟨a, cap, rfl⟩ := lies_form hl
  obtain ⟨pa, pc, rfl⟩ := ints_form hp
  simp only [List.length_nil] at hp ⊢
  clear hl hp hs he
  go_enter Tryz.func34, Tryz.ntmps34
  go_wp2_with fail
  refine (CH.out w B0).mono ?_
  rintro e X1 ⟨rfl, hb1⟩
  have B1 := B0.trans (hb1.mono B0.size)
  clear hb1
  go_wp2_with fail
  refine (HC.out X1 B1).mono ?_
  rintro e X2 ⟨a2, c2, rfl, hL2, hb2⟩
  have HL2 := Lib.hid (liesF_mono (B' := w.heap.size) B1.size hL2)
  have B2 := B1.trans (hb2.mono B1.size)
  clear hL2 hb2
  go_wp2_with fail
  go_ret2
  exact ⟨a2, c2, rfl, HL2.out, B2⟩

set_option maxRecDepth 100000 in
set_option maxHeartbeats 4000000 in
theorem qkids_absent (f : Fo) (p : List Int) (v pv : Value) (w : World) (hl : Lies w v f) (hs : Small f) (hp : IntsLie w pv p) (hpl : p.length ≤ 1000000) (he : foErr f = 0) (h0 : p ≠ []) (hno : placeF f p = none) :
    Calls Tryz.prog 34 #[v, pv] w (FoRes w (kidsV f p)) := by
  have CH := Lib.hid (fun W (hW : Below w.heap.size w W) => qcheck_any f v W (lies_below hl hW) hs)
  have B0 := Below.refl w.heap.size w
  rw [show kidsV f p = (.nil, 6) by unfold kidsV; rw [if_neg (by simpa using he), if_neg h0, hno]]
  rw [he] at CH
  obtain ⟨V, ⟨h, ks, aa, ca, ak, ck, rfl, hA, hK, hor⟩, hV⟩ := place_any p f v pv w hl hp hpl
  have PV := Lib.hid hV
  clear hV
  rw [hno] at hor PV
  unfold aggOf at PV
  simp only [Option.isSome_none] at PV
  obtain ⟨a, cap, rfl⟩ := lies_form hl
  obtain ⟨pa, pc, rfl⟩ := ints_form hp
  have e0 : ((p.length : Int) == 0) = false := by simp; exact h0
  clear hl hp hs he hA hK hor hno h0
  go_enter Tryz.func34, Tryz.ntmps34
  go_wp2_with fail
  refine (CH.out w B0).mono ?_
  rintro e X1 ⟨rfl, hb1⟩
  have B1 := B0.trans (hb1.mono B0.size)
  clear hb1
  go_wp2_with fail
  refine (PV.out X1 B1).mono ?_
  rintro e X2 ⟨rfl, hb2⟩
  have B2 := B1.trans (hb2.mono B1.size)
  clear hb2
  go_upto_region 7 with fail
  have k3 := World.alloc_heap_new X2 (.cells #[.int .i64 h.k, .string ⟨h.l.toArray⟩, .slice aa h.ats.length ca, .int .i64 h.n, .int .i64 h.d, .string ⟨h.x.toArray⟩, .slice ak ks.len ck] 43)
  have B3 : Below w.heap.size w (X2.alloc (.cells #[.int .i64 h.k, .string ⟨h.l.toArray⟩, .slice aa h.ats.length ca, .int .i64 h.n, .int .i64 h.d, .string ⟨h.x.toArray⟩, .slice ak ks.len ck] 43)) := B2.alloc B2.size _
  have hs3 : X2.heap.size < (X2.alloc (.cells #[.int .i64 h.k, .string ⟨h.l.toArray⟩, .slice aa h.ats.length ca, .int .i64 h.n, .int .i64 h.d, .string ⟨h.x.toArray⟩, .slice ak ks.len ck] 43)).heap.size := by simp
  generalize X2.alloc (.cells #[.int .i64 h.k, .string ⟨h.l.toArray⟩, .slice aa h.ats.length ca, .int .i64 h.n, .int .i64 h.d, .string ⟨h.x.toArray⟩, .slice ak ks.len ck] 43) = X3 at *
  clear k3
  go_wp2_with fail
  go_ret2
  exact FoRes.none B3

set_option maxRecDepth 100000 in
set_option maxHeartbeats 4000000 in
theorem qkids_kind (f : Fo) (p : List Int) (v pv : Value) (w : World) (hl : Lies w v f) (hs : Small f) (hp : IntsLie w pv p) (hpl : p.length ≤ 1000000) (he : foErr f = 0) (h0 : p ≠ []) (hd0 : Hd) (ks0 : Fo) (hno : placeF f p = some (hd0, ks0)) (hk : hd0.k ≠ 0) :
    Calls Tryz.prog 34 #[v, pv] w (FoRes w (kidsV f p)) := by
  have CH := Lib.hid (fun W (hW : Below w.heap.size w W) => qcheck_any f v W (lies_below hl hW) hs)
  have B0 := Below.refl w.heap.size w
  rw [show kidsV f p = (.nil, 9) by unfold kidsV; rw [if_neg (by simpa using he), if_neg h0, hno]; simp only; rw [if_pos hk]]
  rw [he] at CH
  obtain ⟨V, ⟨h, ks, aa, ca, ak, ck, rfl, hA, hK, hor⟩, hV⟩ := place_any p f v pv w hl hp hpl
  have PV := Lib.hid hV
  clear hV
  have hsz := place_size hno
  have hfs := hs.size
  rw [hno] at hor PV
  obtain ⟨rfl, rfl⟩ : h = hd0 ∧ ks = ks0 := by
    rcases hor with e | ⟨e, -⟩
    · exact Prod.mk.inj (Option.some.inj e.symm)
    · cases e
  unfold aggOf at PV
  simp only [Option.isSome_some] at PV
  have HC := Lib.hid (fun W (hW : Below w.heap.size w W) => copyOf_any _ ks (Nat.le_refl _) (by omega) _ W (lies_below hK hW))
  obtain ⟨a, cap, rfl⟩ := lies_form hl
  obtain ⟨pa, pc, rfl⟩ := ints_form hp
  have e0 : ((p.length : Int) == 0) = false := by simp; exact h0
  have b0 : (h.k != 0) = true := by simpa using hk
  clear hl hp hs he hA hK hor hno h0 hk hsz hfs
  go_enter Tryz.func34, Tryz.ntmps34
  go_wp2_with fail
  refine (CH.out w B0).mono ?_
  rintro e X1 ⟨rfl, hb1⟩
  have B1 := B0.trans (hb1.mono B0.size)
  clear hb1
  go_wp2_with fail
  refine (PV.out X1 B1).mono ?_
  rintro e X2 ⟨rfl, hb2⟩
  have B2 := B1.trans (hb2.mono B1.size)
  clear hb2
  go_upto_region 7 with fail
  have k3 := World.alloc_heap_new X2 (.cells #[.int .i64 h.k, .string ⟨h.l.toArray⟩, .slice aa h.ats.length ca, .int .i64 h.n, .int .i64 h.d, .string ⟨h.x.toArray⟩, .slice ak ks.len ck] 43)
  have B3 : Below w.heap.size w (X2.alloc (.cells #[.int .i64 h.k, .string ⟨h.l.toArray⟩, .slice aa h.ats.length ca, .int .i64 h.n, .int .i64 h.d, .string ⟨h.x.toArray⟩, .slice ak ks.len ck] 43)) := B2.alloc B2.size _
  have hs3 : X2.heap.size < (X2.alloc (.cells #[.int .i64 h.k, .string ⟨h.l.toArray⟩, .slice aa h.ats.length ca, .int .i64 h.n, .int .i64 h.d, .string ⟨h.x.toArray⟩, .slice ak ks.len ck] 43)).heap.size := by simp
  generalize X2.alloc (.cells #[.int .i64 h.k, .string ⟨h.l.toArray⟩, .slice aa h.ats.length ca, .int .i64 h.n, .int .i64 h.d, .string ⟨h.x.toArray⟩, .slice ak ks.len ck] 43) = X3 at *
  have y0 : X3.cell? ⟨X2.heap.size, 0, none⟩ = some (.int .i64 h.k) := cell_of_block k3 rfl
  have y6 : X3.cell? ⟨X2.heap.size, 6, none⟩ = some (.slice ak ks.len ck) := cell_of_block k3 rfl
  clear k3
  go_wp2_with fail
  go_ret2
  exact FoRes.none B3

set_option maxRecDepth 100000 in
set_option maxHeartbeats 4000000 in
theorem qkids_there (f : Fo) (p : List Int) (v pv : Value) (w : World) (hl : Lies w v f) (hs : Small f) (hp : IntsLie w pv p) (hpl : p.length ≤ 1000000) (he : foErr f = 0) (h0 : p ≠ []) (hd0 : Hd) (ks0 : Fo) (hno : placeF f p = some (hd0, ks0)) (hk : hd0.k = 0) :
    Calls Tryz.prog 34 #[v, pv] w (FoRes w (kidsV f p)) := by
  have CH := Lib.hid (fun W (hW : Below w.heap.size w W) => qcheck_any f v W (lies_below hl hW) hs)
  have B0 := Below.refl w.heap.size w
  rw [show kidsV f p = (ks0, 0) by unfold kidsV; rw [if_neg (by simpa using he), if_neg h0, hno]; simp only; rw [if_neg (by simpa using hk)]]
  rw [he] at CH
  obtain ⟨V, ⟨h, ks, aa, ca, ak, ck, rfl, hA, hK, hor⟩, hV⟩ := place_any p f v pv w hl hp hpl
  have PV := Lib.hid hV
  clear hV
  have hsz := place_size hno
  have hfs := hs.size
  rw [hno] at hor PV
  obtain ⟨rfl, rfl⟩ : h = hd0 ∧ ks = ks0 := by
    rcases hor with e | ⟨e, -⟩
    · exact Prod.mk.inj (Option.some.inj e.symm)
    · cases e
  unfold aggOf at PV
  simp only [Option.isSome_some] at PV
  have HC := Lib.hid (fun W (hW : Below w.heap.size w W) => copyOf_any _ ks (Nat.le_refl _) (by omega) _ W (lies_below hK hW))
  obtain ⟨a, cap, rfl⟩ := lies_form hl
  obtain ⟨pa, pc, rfl⟩ := ints_form hp
  have e0 : ((p.length : Int) == 0) = false := by simp; exact h0
  have b0 : (h.k != 0) = false := by simpa using hk
  clear hl hp hs he hA hK hor hno h0 hk hsz hfs
  go_enter Tryz.func34, Tryz.ntmps34
  go_wp2_with fail
  refine (CH.out w B0).mono ?_
  rintro e X1 ⟨rfl, hb1⟩
  have B1 := B0.trans (hb1.mono B0.size)
  clear hb1
  go_wp2_with fail
  refine (PV.out X1 B1).mono ?_
  rintro e X2 ⟨rfl, hb2⟩
  have B2 := B1.trans (hb2.mono B1.size)
  clear hb2
  go_upto_region 7 with fail
  have k3 := World.alloc_heap_new X2 (.cells #[.int .i64 h.k, .string ⟨h.l.toArray⟩, .slice aa h.ats.length ca, .int .i64 h.n, .int .i64 h.d, .string ⟨h.x.toArray⟩, .slice ak ks.len ck] 43)
  have B3 : Below w.heap.size w (X2.alloc (.cells #[.int .i64 h.k, .string ⟨h.l.toArray⟩, .slice aa h.ats.length ca, .int .i64 h.n, .int .i64 h.d, .string ⟨h.x.toArray⟩, .slice ak ks.len ck] 43)) := B2.alloc B2.size _
  have hs3 : X2.heap.size < (X2.alloc (.cells #[.int .i64 h.k, .string ⟨h.l.toArray⟩, .slice aa h.ats.length ca, .int .i64 h.n, .int .i64 h.d, .string ⟨h.x.toArray⟩, .slice ak ks.len ck] 43)).heap.size := by simp
  generalize X2.alloc (.cells #[.int .i64 h.k, .string ⟨h.l.toArray⟩, .slice aa h.ats.length ca, .int .i64 h.n, .int .i64 h.d, .string ⟨h.x.toArray⟩, .slice ak ks.len ck] 43) = X3 at *
  have y0 : X3.cell? ⟨X2.heap.size, 0, none⟩ = some (.int .i64 h.k) := cell_of_block k3 rfl
  have y6 : X3.cell? ⟨X2.heap.size, 6, none⟩ = some (.slice ak ks.len ck) := cell_of_block k3 rfl
  clear k3
  go_wp2_with fail
  refine (HC.out X3 B3).mono ?_
  rintro e X4 ⟨a4, c4, rfl, hL4, hb4⟩
  have HL4 := Lib.hid (liesF_mono (B' := w.heap.size) B3.size hL4)
  have B4 := B3.trans (hb4.mono B3.size)
  clear hL4 hb4
  go_wp2_with fail
  go_ret2
  exact ⟨a4, c4, rfl, HL4.out, B4⟩

theorem qkids_any (f : Fo) (p : List Int) (v pv : Value) (w : World) (hl : Lies w v f) (hs : Small f) (hp : IntsLie w pv p) (hpl : p.length ≤ 1000000) : Calls Tryz.prog 34 #[v, pv] w (FoRes w (kidsV f p)) := by
  by_cases he : foErr f = 0
  · by_cases h0 : p = []
    · exact qkids_nil f p v pv w hl hs hp hpl he h0
    · cases hno : placeF f p with
      | none => exact qkids_absent f p v pv w hl hs hp hpl he h0 hno
      | some x =>
        by_cases hk : x.1.k = 0
        · exact qkids_there f p v pv w hl hs hp hpl he h0 x.1 x.2 hno hk
        · exact qkids_kind f p v pv w hl hs hp hpl he h0 x.1 x.2 hno hk
  · exact qkids_bad f p v pv w hl hs hp hpl he

/-! package tree -/
def forestV (f : Fo) (p : List Int) : Fo × Int :=
  if p = [] then (f, 0) else match placeF f p with
    | none => (.nil, 6)
    | some (h, ks) => if h.k ≠ 0 then (.nil, 9) else (ks, 0)
def FoLie (w : World) (r : Fo × Int) (e : Ending) (w' : World) : Prop :=
  ∃ a cap, e = .returned (.tuple #[.slice a r.1.len cap, .int .i64 r.2]) ∧ Lies w (.slice a r.1.len cap) r.1 ∧ Below w.heap.size w w'
set_option maxRecDepth 100000 in
set_option maxHeartbeats 4000000 in
theorem forestAt_nil (f : Fo) (v : Value) (a : Option Addr) (c : Nat) (w : World) (hl : Lies w v f) : Calls Tryz.prog 96 #[v, .slice a 0 c] w (FoLie w (f, 0)) := by
  have HL := Lib.hid hl
  obtain ⟨a, cap, rfl⟩ := lies_form hl
  clear hl
  go_enter Tryz.func96, Tryz.ntmps96
  go_wp2_with fail
  go_ret2
  exact ⟨a, cap, rfl, HL.out, Below.refl _ _⟩

set_option maxRecDepth 100000 in
set_option maxHeartbeats 4000000 in
theorem forestAt_absent (f : Fo) (p : List Int) (v pv : Value) (w : World) (hl : Lies w v f) (hp : IntsLie w pv p) (hpl : p.length ≤ 1000000) (h0 : p ≠ []) (hno : placeF f p = none) : Calls Tryz.prog 96 #[v, pv] w (FoLie w (.nil, 6)) := by
  have TA := Lib.hid (treeAt_any f p v pv w hl hp hpl)
  rw [hno] at TA
  obtain ⟨a, cap, rfl⟩ := lies_form hl
  obtain ⟨pa, pc, rfl⟩ := ints_form hp
  have e0 : ((p.length : Int) == 0) = false := by simp; exact h0
  clear hl hp hno h0
  go_enter Tryz.func96, Tryz.ntmps96
  go_wp2_with fail
  refine TA.out.mono ?_
  rintro e X2 ⟨h, ks, aa, ca, ak, ck, rfl, hA, hK, hor, B2⟩
  clear hA hK hor
  unfold aggOf
  go_upto_region 4 with fail
  have k3 := World.alloc_heap_new X2 (.cells #[.int .i64 h.k, .string ⟨h.l.toArray⟩, .slice aa h.ats.length ca, .int .i64 h.n, .int .i64 h.d, .string ⟨h.x.toArray⟩, .slice ak ks.len ck] 43)
  have B3 : Below w.heap.size w (X2.alloc (.cells #[.int .i64 h.k, .string ⟨h.l.toArray⟩, .slice aa h.ats.length ca, .int .i64 h.n, .int .i64 h.d, .string ⟨h.x.toArray⟩, .slice ak ks.len ck] 43)) := B2.alloc B2.size _
  have hs3 : X2.heap.size < (X2.alloc (.cells #[.int .i64 h.k, .string ⟨h.l.toArray⟩, .slice aa h.ats.length ca, .int .i64 h.n, .int .i64 h.d, .string ⟨h.x.toArray⟩, .slice ak ks.len ck] 43)).heap.size := by simp
  generalize X2.alloc (.cells #[.int .i64 h.k, .string ⟨h.l.toArray⟩, .slice aa h.ats.length ca, .int .i64 h.n, .int .i64 h.d, .string ⟨h.x.toArray⟩, .slice ak ks.len ck] 43) = X3 at *
  clear k3
  go_wp2_with fail
  go_ret2
  exact ⟨none, 0, rfl, .inl ⟨_, _, rfl, rfl⟩, B3⟩

set_option maxRecDepth 100000 in
set_option maxHeartbeats 4000000 in
theorem forestAt_kind (f : Fo) (p : List Int) (v pv : Value) (w : World) (hl : Lies w v f) (hp : IntsLie w pv p) (hpl : p.length ≤ 1000000) (h0 : p ≠ []) (hd0 : Hd) (ks0 : Fo) (hno : placeF f p = some (hd0, ks0)) (hk : hd0.k ≠ 0) : Calls Tryz.prog 96 #[v, pv] w (FoLie w (.nil, 9)) := by
  have TA := Lib.hid (treeAt_any f p v pv w hl hp hpl)
  rw [hno] at TA
  obtain ⟨a, cap, rfl⟩ := lies_form hl
  obtain ⟨pa, pc, rfl⟩ := ints_form hp
  have e0 : ((p.length : Int) == 0) = false := by simp; exact h0
  clear hl hp hno h0
  go_enter Tryz.func96, Tryz.ntmps96
  go_wp2_with fail
  refine TA.out.mono ?_
  rintro e X2 ⟨h, ks, aa, ca, ak, ck, rfl, hA, hK, hor, B2⟩
  obtain ⟨rfl, rfl⟩ : h = hd0 ∧ ks = ks0 := by
    rcases hor with e | ⟨e, -⟩
    · exact Prod.mk.inj (Option.some.inj e.symm)
    · cases e
  have HK := Lib.hid hK
  have b0 : (h.k != 0) = true := by simpa using hk
  clear hk
  clear hA hK hor
  unfold aggOf
  go_upto_region 4 with fail
  have k3 := World.alloc_heap_new X2 (.cells #[.int .i64 h.k, .string ⟨h.l.toArray⟩, .slice aa h.ats.length ca, .int .i64 h.n, .int .i64 h.d, .string ⟨h.x.toArray⟩, .slice ak ks.len ck] 43)
  have B3 : Below w.heap.size w (X2.alloc (.cells #[.int .i64 h.k, .string ⟨h.l.toArray⟩, .slice aa h.ats.length ca, .int .i64 h.n, .int .i64 h.d, .string ⟨h.x.toArray⟩, .slice ak ks.len ck] 43)) := B2.alloc B2.size _
  have hs3 : X2.heap.size < (X2.alloc (.cells #[.int .i64 h.k, .string ⟨h.l.toArray⟩, .slice aa h.ats.length ca, .int .i64 h.n, .int .i64 h.d, .string ⟨h.x.toArray⟩, .slice ak ks.len ck] 43)).heap.size := by simp
  generalize X2.alloc (.cells #[.int .i64 h.k, .string ⟨h.l.toArray⟩, .slice aa h.ats.length ca, .int .i64 h.n, .int .i64 h.d, .string ⟨h.x.toArray⟩, .slice ak ks.len ck] 43) = X3 at *
  have y0 : X3.cell? ⟨X2.heap.size, 0, none⟩ = some (.int .i64 h.k) := cell_of_block k3 rfl
  have y6 : X3.cell? ⟨X2.heap.size, 6, none⟩ = some (.slice ak ks.len ck) := cell_of_block k3 rfl
  clear k3
  go_wp2_with fail
  go_ret2
  exact ⟨none, 0, rfl, .inl ⟨_, _, rfl, rfl⟩, B3⟩

set_option maxRecDepth 100000 in
set_option maxHeartbeats 4000000 in
theorem forestAt_there (f : Fo) (p : List Int) (v pv : Value) (w : World) (hl : Lies w v f) (hp : IntsLie w pv p) (hpl : p.length ≤ 1000000) (h0 : p ≠ []) (hd0 : Hd) (ks0 : Fo) (hno : placeF f p = some (hd0, ks0)) (hk : hd0.k = 0) : Calls Tryz.prog 96 #[v, pv] w (FoLie w (ks0, 0)) := by
  have TA := Lib.hid (treeAt_any f p v pv w hl hp hpl)
  rw [hno] at TA
  obtain ⟨a, cap, rfl⟩ := lies_form hl
  obtain ⟨pa, pc, rfl⟩ := ints_form hp
  have e0 : ((p.length : Int) == 0) = false := by simp; exact h0
  clear hl hp hno h0
  go_enter Tryz.func96, Tryz.ntmps96
  go_wp2_with fail
  refine TA.out.mono ?_
  rintro e X2 ⟨h, ks, aa, ca, ak, ck, rfl, hA, hK, hor, B2⟩
  obtain ⟨rfl, rfl⟩ : h = hd0 ∧ ks = ks0 := by
    rcases hor with e | ⟨e, -⟩
    · exact Prod.mk.inj (Option.some.inj e.symm)
    · cases e
  have HK := Lib.hid hK
  have b0 : (h.k != 0) = false := by simpa using hk
  clear hk
  clear hA hK hor
  unfold aggOf
  go_upto_region 4 with fail
  have k3 := World.alloc_heap_new X2 (.cells #[.int .i64 h.k, .string ⟨h.l.toArray⟩, .slice aa h.ats.length ca, .int .i64 h.n, .int .i64 h.d, .string ⟨h.x.toArray⟩, .slice ak ks.len ck] 43)
  have B3 : Below w.heap.size w (X2.alloc (.cells #[.int .i64 h.k, .string ⟨h.l.toArray⟩, .slice aa h.ats.length ca, .int .i64 h.n, .int .i64 h.d, .string ⟨h.x.toArray⟩, .slice ak ks.len ck] 43)) := B2.alloc B2.size _
  have hs3 : X2.heap.size < (X2.alloc (.cells #[.int .i64 h.k, .string ⟨h.l.toArray⟩, .slice aa h.ats.length ca, .int .i64 h.n, .int .i64 h.d, .string ⟨h.x.toArray⟩, .slice ak ks.len ck] 43)).heap.size := by simp
  generalize X2.alloc (.cells #[.int .i64 h.k, .string ⟨h.l.toArray⟩, .slice aa h.ats.length ca, .int .i64 h.n, .int .i64 h.d, .string ⟨h.x.toArray⟩, .slice ak ks.len ck] 43) = X3 at *
  have y0 : X3.cell? ⟨X2.heap.size, 0, none⟩ = some (.int .i64 h.k) := cell_of_block k3 rfl
  have y6 : X3.cell? ⟨X2.heap.size, 6, none⟩ = some (.slice ak ks.len ck) := cell_of_block k3 rfl
  clear k3
  go_wp2_with fail
  go_ret2
  exact ⟨ak, ck, rfl, HK.out, B3⟩

theorem forestAt_any (f : Fo) (p : List Int) (v pv : Value) (w : World) (hl : Lies w v f) (hp : IntsLie w pv p) (hpl : p.length ≤ 1000000) : Calls Tryz.prog 96 #[v, pv] w (FoLie w (forestV f p)) := by
  by_cases h0 : p = []
  · rw [show forestV f p = (f, 0) by unfold forestV; rw [if_pos h0]]
    subst h0
    obtain ⟨a, c, rfl⟩ := ints_form hp
    exact forestAt_nil f v a c w hl
  · cases hno : placeF f p with
    | none =>
      rw [show forestV f p = (.nil, 6) by unfold forestV; rw [if_neg h0, hno]]
      exact forestAt_absent f p v pv w hl hp hpl h0 hno
    | some x =>
      by_cases hk : x.1.k = 0
      · rw [show forestV f p = (x.2, 0) by unfold forestV; rw [if_neg h0, hno]; simp only; rw [if_neg (by simpa using hk)]]
        exact forestAt_there f p v pv w hl hp hpl h0 x.1 x.2 hno hk
      · rw [show forestV f p = (.nil, 9) by unfold forestV; rw [if_neg h0, hno]; simp only; rw [if_pos hk]]
        exact forestAt_kind f p v pv w hl hp hpl h0 x.1 x.2 hno hk
set_option maxRecDepth 100000 in
set_option maxHeartbeats 4000000 in
theorem tkids_any (f : Fo) (p : List Int) (v pv : Value) (w : World) (hl : Lies w v f) (hs : Small f) (hp : IntsLie w pv p) (hpl : p.length ≤ 1000000) : Calls Tryz.prog 33 #[v, pv] w (FoRes w (kidsV f p)) := by
  have CH := Lib.hid (tcheck_any f v w hl hs)
  have FA := Lib.hid (fun W (hW : Below w.heap.size w W) => forestAt_any f p v pv W (lies_below hl hW) (ints_below hp hW) hpl)
  obtain ⟨a, cap, rfl⟩ := lies_form hl
  obtain ⟨pa, pc, rfl⟩ := ints_form hp
  clear hl hp hs
  by_cases he : foErr f = 0
  · rw [show kidsV f p = forestV f p by unfold kidsV forestV; rw [if_neg (by simpa using he)]]
    rw [he] at CH
    clear he
    generalize forestV f p = r at *
    go_enter Tryz.func33, Tryz.ntmps33
    go_wp2_with fail
    refine CH.out.mono ?_
    rintro e X1 ⟨rfl, B1⟩
    go_wp2_with fail
    refine (FA.out X1 B1).mono ?_
    rintro e X2 ⟨a2, c2, rfl, hL2, hb2⟩
    have B2 := B1.trans (hb2.mono B1.size)
    have CL := Lib.hid (clone_any _ _ (Nat.le_refl _) _ X2 (lies_below hL2 hb2))
    clear hL2 hb2
    go_wp2_with fail
    refine CL.out.mono ?_
    rintro e X3 ⟨a3, c3, rfl, hL3, hb3⟩
    have HL3 := Lib.hid (liesF_mono (B' := w.heap.size) B2.size hL3)
    have B3 := B2.trans (hb3.mono B2.size)
    clear hL3 hb3
    go_wp2_with fail
    go_ret2
    exact ⟨a3, c3, rfl, HL3.out, B3⟩
  · rw [show kidsV f p = (.nil, foErr f) by unfold kidsV; rw [if_pos he]]
    have b0 : (foErr f != 0) = true := by simpa using he
    generalize foErr f = ee at *
    clear he
    go_enter Tryz.func33, Tryz.ntmps33
    go_wp2_with fail
    refine CH.out.mono ?_
    rintro e X1 ⟨rfl, B1⟩
    go_wp2_with fail
    go_ret2
    exact FoRes.none B1
end Go.Proofs.YtcgedpfolloinaaGreat

namespace Go.Proofs.YtcgedpfolloinaaGreat
open Go.RowKit

theorem append_none {P : Program} {w : World} (t ty e : TypeId) (i : TypeInfo) (size : Nat) (ht : P.underlying t = some (.slice e)) (hi : P.info? e = some i) {base : Nat}
    (v : Value) (n c : Nat) (xs : List Value) (hown : w.ownsRow base e size v n xs) :
    (Builtin.append_ #[t, t] ty #[v, .slice none 0 c]).run P w = .ok v w := by
  rcases hown.2 with ⟨rfl, rfl⟩ | ⟨g, cap, cur, rfl, _, _, hnc, _⟩
  · simp [Builtin.append_, run_underlying ht, sizeOf, typeInfo, hi, Builtin.lenOf, Builtin.firstCells]
  · simp [Builtin.append_, run_underlying ht, sizeOf, typeInfo, hi, Builtin.lenOf, Builtin.firstCells, hnc, storeCells]

end Go.Proofs.YtcgedpfolloinaaGreat
