/- What the proof of PrfTreeTexts rests on, part 11 of 13. -/
import Derived.Test.YtcgedpfolloinaaGreatPPrfTreeTexts10
namespace Go.Proofs.YtcgedpfolloinaaGreat
open Go.RowKit

theorem owns_below {v w : World} {base size n : Nat} {e : TypeId} {u : Value} {xs : List Value} (ho : v.ownsRow base e size u n xs) (h : Below v.heap.size v w) : w.ownsRow base e size u n xs := by
  refine ⟨ho.1, ?_⟩
  rcases ho.2 with hn | ⟨g, cap, cur, hv, hbg, hg, rest⟩
  · exact .inl hn
  · exact .inr ⟨g, cap, cur, hv, hbg, (h.block g (Array.getElem?_eq_some_iff.1 hg).1).trans hg, rest⟩
theorem owns_set {w : World} {base size n b o : Nat} {e : TypeId} {u x : Value} {xs : List Value} (ho : w.ownsRow base e size u n xs) (h : b < base) : (w.setCell ⟨b, o, none⟩ x).ownsRow base e size u n xs := by
  refine ⟨ho.1, ?_⟩
  rcases ho.2 with hn | ⟨g, cap, cur, hv, hbg, hg, rest⟩
  · exact .inl hn
  · exact .inr ⟨g, cap, cur, hv, hbg, (set_far (by omega)).trans hg, rest⟩
set_option linter.unusedSimpArgs false in
set_option maxRecDepth 100000 in
set_option maxHeartbeats 4000000 in
theorem rhead_attrs (l : List UInt8) (k m : Nat) (c : UInt8) (lab : List UInt8) (w : World) (hk : k < l.length) (hl : l.length ≤ 90000) (hc : l[k] = c) (hlet : letterB c = true) (hm : wordLen (l.drop k) = m) (hlab : (l.drop k).take m = lab)
    (hlt : k + m < l.length) (h40 : l[k + m] = 40) :
    Calls Tryz.prog 153 #[.string ⟨l.toArray⟩, .int .i64 k] w (HdRes w l (headP (l.drop k))) := by
  have HD := drop_at hk hc
  have hmle : k + m ≤ l.length := by have := wordLen_le (l.drop k); simp at this; omega
  have HO := Lib.hid (show headP (l.drop k) = (optA (l.drop (k + m))).map fun x => (⟨0, lab, x.1, 0, 0, []⟩, x.2) by
    have := headP_word (t := l.drop (k + 1)) hlet (wordLen_pos hlet)
    rw [← HD, hm, hlab, List.drop_drop] at this
    exact this)
  have U := Lib.hid (fun w => show Calls Tryz.prog 169 #[.string ⟨l.toArray⟩, .int .i64 k] w fun e w' => e = .returned (.int .i64 m) ∧ w = w' from by have := qword_any l k w (by omega) (by omega); rw [hm] at this; exact this)
  have d0 : decide ((l.length : Int) ≤ (k : Int)) = false := by simp; omega
  have b1 : ((c.toNat : Int) == 34) = false := by have := (letter_not hlet).1; simp; omega
  have b1' : (c.toNat == 34) = false := by simpa using (letter_not hlet).1
  have HX0 := getD_at (d := 0) hk hc
  have L := Lib.hid (letter_any c)
  rw [hlet] at L
  have hx : (⟨l.toArray⟩ : ByteArray).extract k (k + m) = ⟨lab.toArray⟩ := (ext_mid l k m).trans (by rw [hlab])
  have a1 : (0 : Int) ≤ (k : Int) + (m : Int) := by omega
  have a2 : (k : Int) + (m : Int) ≤ (l.length : Int) := by omega
  have a3 : (k : Int) ≤ (k : Int) + (m : Int) := by omega
  have a4 : ((k : Int) + (m : Int)).toNat = k + m := by omega
  have d1 : decide ((l.length : Int) ≤ (k : Int) + (m : Int)) = false := by simp; omega
  have HX2 := getD_at (d := 0) hlt h40
  obtain ⟨i0, hi, hz0, hz1, hz2⟩ := info_parts info_attr
  have LP0 := Lib.hid (show LoopP l (optA (l.drop (k + m))) [] (k + m) from .inl ⟨rfl, by rw [drop_at hlt h40]; rfl, by rw [drop_at hlt h40]; rfl⟩)
  generalize optA (l.drop (k + m)) = oo at *
  generalize headP (l.drop k) = o at *
  clear HD hlet hm hlab
  go_enter Tryz.func153, Tryz.ntmps153
  go_wp2_with fail
  refine (L.out _).mono ?_; rintro e w' ⟨rfl, rfl⟩
  go_wp2_with fail
  refine (U.out _).mono ?_
  rintro e w1 ⟨rfl, hw⟩
  obtain rfl := hw
  go_upto_region 11 with fail
  have kz := (Below.heap_alloc (w.alloc (.cells #[.int .i64 0, .string ⟨#[]⟩, .slice none 0 0, .int .i64 0, .int .i64 0, .string ⟨#[]⟩] 27)) (.cells #[.int .i64 0, .string ⟨lab.toArray⟩, .slice none 0 0, .int .i64 0, .int .i64 0, .string ⟨#[]⟩] 27) w.heap.size (by simp)).trans (World.alloc_heap_new w (.cells #[.int .i64 0, .string ⟨#[]⟩, .slice none 0 0, .int .i64 0, .int .i64 0, .string ⟨#[]⟩] 27))
  have kh := World.alloc_heap_new (w.alloc (.cells #[.int .i64 0, .string ⟨#[]⟩, .slice none 0 0, .int .i64 0, .int .i64 0, .string ⟨#[]⟩] 27)) (.cells #[.int .i64 0, .string ⟨lab.toArray⟩, .slice none 0 0, .int .i64 0, .int .i64 0, .string ⟨#[]⟩] 27)
  rw [show (w.alloc (.cells #[.int .i64 0, .string ⟨#[]⟩, .slice none 0 0, .int .i64 0, .int .i64 0, .string ⟨#[]⟩] 27)).heap.size = w.heap.size + 1 by simp] at kh
  have B1 : Below w.heap.size w ((w.alloc (.cells #[.int .i64 0, .string ⟨#[]⟩, .slice none 0 0, .int .i64 0, .int .i64 0, .string ⟨#[]⟩] 27)).alloc (.cells #[.int .i64 0, .string ⟨lab.toArray⟩, .slice none 0 0, .int .i64 0, .int .i64 0, .string ⟨#[]⟩] 27)) := by ((repeat' (first | exact Below.refl _ _ | assumption | refine Below.setCell ?_ ?_ _ | refine bdrewN ?_ _ | refine Below.drew ?_ | refine Below.alloc ?_ ?_ _ | refine bbehind ?_ (by assumption) ?_)); all_goals first | (simp; done) | (simp; omega) | omega)
  have hsz : ((w.alloc (.cells #[.int .i64 0, .string ⟨#[]⟩, .slice none 0 0, .int .i64 0, .int .i64 0, .string ⟨#[]⟩] 27)).alloc (.cells #[.int .i64 0, .string ⟨lab.toArray⟩, .slice none 0 0, .int .i64 0, .int .i64 0, .string ⟨#[]⟩] 27)).heap.size = w.heap.size + 2 := by simp
  generalize (w.alloc (.cells #[.int .i64 0, .string ⟨#[]⟩, .slice none 0 0, .int .i64 0, .int .i64 0, .string ⟨#[]⟩] 27)).alloc (.cells #[.int .i64 0, .string ⟨lab.toArray⟩, .slice none 0 0, .int .i64 0, .int .i64 0, .string ⟨#[]⟩] 27) = W at *
  have z0 : W.cell? ⟨w.heap.size, 0, none⟩ = some (.int .i64 0) := cell_of_block kz rfl
  have zf0 := frozen_of_block (o := 0) kz
  have z1 : W.cell? ⟨w.heap.size, 1, none⟩ = some (.string ⟨#[]⟩) := cell_of_block kz rfl
  have zf1 := frozen_of_block (o := 1) kz
  have z2 : W.cell? ⟨w.heap.size, 2, none⟩ = some (.slice none 0 0) := cell_of_block kz rfl
  have zf2 := frozen_of_block (o := 2) kz
  have z3 : W.cell? ⟨w.heap.size, 3, none⟩ = some (.int .i64 0) := cell_of_block kz rfl
  have zf3 := frozen_of_block (o := 3) kz
  have z4 : W.cell? ⟨w.heap.size, 4, none⟩ = some (.int .i64 0) := cell_of_block kz rfl
  have zf4 := frozen_of_block (o := 4) kz
  have z5 : W.cell? ⟨w.heap.size, 5, none⟩ = some (.string ⟨#[]⟩) := cell_of_block kz rfl
  have zf5 := frozen_of_block (o := 5) kz
  have y0 : W.cell? ⟨w.heap.size + 1, 0, none⟩ = some (.int .i64 0) := cell_of_block kh rfl
  have y1 : W.cell? ⟨w.heap.size + 1, 1, none⟩ = some (.string ⟨lab.toArray⟩) := cell_of_block kh rfl
  have y2 : W.cell? ⟨w.heap.size + 1, 2, none⟩ = some (.slice none 0 0) := cell_of_block kh rfl
  have y3 : W.cell? ⟨w.heap.size + 1, 3, none⟩ = some (.int .i64 0) := cell_of_block kh rfl
  have y4 : W.cell? ⟨w.heap.size + 1, 4, none⟩ = some (.int .i64 0) := cell_of_block kh rfl
  have y5 : W.cell? ⟨w.heap.size + 1, 5, none⟩ = some (.string ⟨#[]⟩) := cell_of_block kh rfl

  have nn : ¬ w.heap.size + 1 = w.heap.size := by omega
  go_wp2_with fail
  go_loopw [1] (fun i wr => ∃ (p : Nat) (sa : List (List UInt8 × List UInt8)) (aa : Option Addr) (ca : Nat), i = .int .i64 p ∧ p ≤ l.length ∧ sa.length ≤ p ∧ LoopP l oo sa p ∧ wr.heap[w.heap.size]? = some (.cells #[.int .i64 0, .string ⟨#[]⟩, .slice none 0 0, .int .i64 0, .int .i64 0, .string ⟨#[]⟩] 27) ∧ wr.heap[w.heap.size + 1]? = some (.cells #[.int .i64 0, .string ⟨lab.toArray⟩, .slice aa sa.length ca, .int .i64 0, .int .i64 0, .string ⟨#[]⟩] 27) ∧ wr.ownsRow (w.heap.size + 2) 81 2 (.slice aa sa.length ca) sa.length (attrCells sa) ∧ Below w.heap.size w wr) (fun i _ => l.length - (intOf i).toNat)
  case atStart => exact ⟨k + m, [], none, 0, by simp, by omega, Nat.zero_le _, LP0.out, kz, kh, World.ownsRow_nil _ _ _ _, B1⟩
  case round =>
    obtain ⟨p, sa, aa, ca, rfl, hp, hsp, hlp, hkz, hkh, hown, hbw⟩ := hrel
    have LP := Lib.hid hlp
    have KZ := Lib.hid hkz
    have KH := Lib.hid hkh
    have OWN := Lib.hid hown
    have BW := Lib.hid hbw
    have hsr : w.heap.size + 1 < wr.heap.size := (Array.getElem?_eq_some_iff.1 hkh).1
    have y2 : wr.cell? ⟨w.heap.size + 1, 2, none⟩ = some (.slice aa sa.length ca) := cell_of_block hkh rfl
    clear hlp hkz hkh hown hbw
    by_cases hb : sa = [] ∨ (l.drop p).head? = some 44
    · have NN := Lib.hid (LP.out.none hb)
      by_cases hs0 : sa = []
      · obtain ⟨hlt2, hc2⟩ : ∃ hp : p < l.length, l[p] = 40 := by
          rcases LP.out with ⟨_, h, _⟩ | ⟨h, _⟩
          · exact head_drop h
          · exact absurd hs0 h
        have NM := Lib.hid (fun a r ha => LP.out.more hb (a := a) (r := r) ha hlt2)
        have HX4 := getD_at (d := 0) hlt2 hc2
        have dn : decide (p < l.length) = true := by simpa using hlt2
        have bs : ((sa.length : Int) == 0) = true := by rw [hs0]; rfl
        clear hb LP hs0
        have QW := Lib.hid (fun w => qword_any l (p + 1) w (by omega) (by omega))
        obtain ⟨n, hn⟩ : ∃ n, wordLen (l.drop (p + 1)) = n := ⟨_, rfl⟩
        rw [hn] at QW
        have hnle : p + 1 + n ≤ l.length := by have := wordLen_le (l.drop (p + 1)); simp at this; omega
        go_wp2_with fail
        refine (QW.out _).mono ?_
        rintro e w2 ⟨rfl, hw⟩
        obtain rfl := hw
        by_cases h0 : n = 0
        · have HN := Lib.hid (NN.out (attrP_zero (hn.trans h0)))
          have HF := Lib.hid (HO.out.trans (by rw [HN.out] <;> rfl))
          have bn : ((n : Int) == 0) = true := by simp; omega
          have kz := KZ.out
          have B1 := BW.out
          clear h0 hn QW
          have z0 : wr.cell? ⟨w.heap.size, 0, none⟩ = some (.int .i64 0) := cell_of_block kz rfl
          have zf0 := frozen_of_block (o := 0) kz
          have z1 : wr.cell? ⟨w.heap.size, 1, none⟩ = some (.string ⟨#[]⟩) := cell_of_block kz rfl
          have zf1 := frozen_of_block (o := 1) kz
          have z2 : wr.cell? ⟨w.heap.size, 2, none⟩ = some (.slice none 0 0) := cell_of_block kz rfl
          have zf2 := frozen_of_block (o := 2) kz
          have z3 : wr.cell? ⟨w.heap.size, 3, none⟩ = some (.int .i64 0) := cell_of_block kz rfl
          have zf3 := frozen_of_block (o := 3) kz
          have z4 : wr.cell? ⟨w.heap.size, 4, none⟩ = some (.int .i64 0) := cell_of_block kz rfl
          have zf4 := frozen_of_block (o := 4) kz
          have z5 : wr.cell? ⟨w.heap.size, 5, none⟩ = some (.string ⟨#[]⟩) := cell_of_block kz rfl
          have zf5 := frozen_of_block (o := 5) kz

          go_wp2_with fail
          have hfin := set6_blk (.int .i64 0) (.string ⟨#[]⟩) (.slice none 0 0) (.int .i64 0) (.int .i64 0) (.string ⟨#[]⟩) kz
          have hbel := set6_below (R := w.heap.size) (.int .i64 0) (.string ⟨#[]⟩) (.slice none 0 0) (.int .i64 0) (.int .i64 0) (.string ⟨#[]⟩) B1 (by omega)
          have hkee := set6_keeps (B := w.heap.size + 1) (R := w.heap.size) wr (.int .i64 0) (.string ⟨#[]⟩) (.slice none 0 0) (.int .i64 0) (.int .i64 0) (.string ⟨#[]⟩) (by omega)
          generalize ((((((wr).setCell ⟨w.heap.size, 0, none⟩ (.int .i64 0)).setCell ⟨w.heap.size, 1, none⟩ (.string ⟨#[]⟩)).setCell ⟨w.heap.size, 2, none⟩ (.slice none 0 0)).setCell ⟨w.heap.size, 3, none⟩ (.int .i64 0)).setCell ⟨w.heap.size, 4, none⟩ (.int .i64 0)).setCell ⟨w.heap.size, 5, none⟩ (.string ⟨#[]⟩) = Wf at hfin hbel hkee ⊢
          have u0 : Wf.cell? ⟨w.heap.size, 0, none⟩ = some (.int .i64 0) := cell_of_block hfin rfl
          have u1 : Wf.cell? ⟨w.heap.size, 1, none⟩ = some (.string ⟨#[]⟩) := cell_of_block hfin rfl
          have u2 : Wf.cell? ⟨w.heap.size, 2, none⟩ = some (.slice none 0 0) := cell_of_block hfin rfl
          have u3 : Wf.cell? ⟨w.heap.size, 3, none⟩ = some (.int .i64 0) := cell_of_block hfin rfl
          have u4 : Wf.cell? ⟨w.heap.size, 4, none⟩ = some (.int .i64 0) := cell_of_block hfin rfl
          have u5 : Wf.cell? ⟨w.heap.size, 5, none⟩ = some (.string ⟨#[]⟩) := cell_of_block hfin rfl
          refine bodyPost_ret (v := .tuple #[.agg #[.int .i64 0, .string ⟨#[]⟩, .slice none 0 0, .int .i64 0, .int .i64 0, .string ⟨#[]⟩], .int .i64 0, .bool false]) (by simp [results, Tryz.results153, go_sem, u0, u1, u2, u3, u4, u5]) rfl ?_
          rw [HF.out]
          exact HdRes.no zeroHd 0 rfl rfl hbel

        have bn : ((n : Int) == 0) = false := by simp; omega
        by_cases h1 : p + 1 + n < l.length
        rotate_left
        · have HN := Lib.hid (NN.out (attrP_end (by rw [hn, List.drop_drop, show l.drop (p + 1 + n) = [] by rw [List.drop_eq_nil_iff]; omega]; simp)))
          have HF := Lib.hid (HO.out.trans (by rw [HN.out] <;> rfl))
          have dm : decide ((l.length : Int) ≤ (p : Int) + 1 + (n : Int)) = true := by simp; omega
          have kz := KZ.out
          have B1 := BW.out
          clear h0 hn QW
          have z0 : wr.cell? ⟨w.heap.size, 0, none⟩ = some (.int .i64 0) := cell_of_block kz rfl
          have zf0 := frozen_of_block (o := 0) kz
          have z1 : wr.cell? ⟨w.heap.size, 1, none⟩ = some (.string ⟨#[]⟩) := cell_of_block kz rfl
          have zf1 := frozen_of_block (o := 1) kz
          have z2 : wr.cell? ⟨w.heap.size, 2, none⟩ = some (.slice none 0 0) := cell_of_block kz rfl
          have zf2 := frozen_of_block (o := 2) kz
          have z3 : wr.cell? ⟨w.heap.size, 3, none⟩ = some (.int .i64 0) := cell_of_block kz rfl
          have zf3 := frozen_of_block (o := 3) kz
          have z4 : wr.cell? ⟨w.heap.size, 4, none⟩ = some (.int .i64 0) := cell_of_block kz rfl
          have zf4 := frozen_of_block (o := 4) kz
          have z5 : wr.cell? ⟨w.heap.size, 5, none⟩ = some (.string ⟨#[]⟩) := cell_of_block kz rfl
          have zf5 := frozen_of_block (o := 5) kz

          go_wp2_with fail
          have hfin := set6_blk (.int .i64 0) (.string ⟨#[]⟩) (.slice none 0 0) (.int .i64 0) (.int .i64 0) (.string ⟨#[]⟩) kz
          have hbel := set6_below (R := w.heap.size) (.int .i64 0) (.string ⟨#[]⟩) (.slice none 0 0) (.int .i64 0) (.int .i64 0) (.string ⟨#[]⟩) B1 (by omega)
          have hkee := set6_keeps (B := w.heap.size + 1) (R := w.heap.size) wr (.int .i64 0) (.string ⟨#[]⟩) (.slice none 0 0) (.int .i64 0) (.int .i64 0) (.string ⟨#[]⟩) (by omega)
          generalize ((((((wr).setCell ⟨w.heap.size, 0, none⟩ (.int .i64 0)).setCell ⟨w.heap.size, 1, none⟩ (.string ⟨#[]⟩)).setCell ⟨w.heap.size, 2, none⟩ (.slice none 0 0)).setCell ⟨w.heap.size, 3, none⟩ (.int .i64 0)).setCell ⟨w.heap.size, 4, none⟩ (.int .i64 0)).setCell ⟨w.heap.size, 5, none⟩ (.string ⟨#[]⟩) = Wf at hfin hbel hkee ⊢
          have u0 : Wf.cell? ⟨w.heap.size, 0, none⟩ = some (.int .i64 0) := cell_of_block hfin rfl
          have u1 : Wf.cell? ⟨w.heap.size, 1, none⟩ = some (.string ⟨#[]⟩) := cell_of_block hfin rfl
          have u2 : Wf.cell? ⟨w.heap.size, 2, none⟩ = some (.slice none 0 0) := cell_of_block hfin rfl
          have u3 : Wf.cell? ⟨w.heap.size, 3, none⟩ = some (.int .i64 0) := cell_of_block hfin rfl
          have u4 : Wf.cell? ⟨w.heap.size, 4, none⟩ = some (.int .i64 0) := cell_of_block hfin rfl
          have u5 : Wf.cell? ⟨w.heap.size, 5, none⟩ = some (.string ⟨#[]⟩) := cell_of_block hfin rfl
          refine bodyPost_ret (v := .tuple #[.agg #[.int .i64 0, .string ⟨#[]⟩, .slice none 0 0, .int .i64 0, .int .i64 0, .string ⟨#[]⟩], .int .i64 0, .bool false]) (by simp [results, Tryz.results153, go_sem, u0, u1, u2, u3, u4, u5]) rfl ?_
          rw [HF.out]
          exact HdRes.no zeroHd 0 rfl rfl hbel

        have dm : decide ((l.length : Int) ≤ (p : Int) + 1 + (n : Int)) = false := by simp; omega
        have i0' : (0 : Int) ≤ (p : Int) + 1 + (n : Int) := by omega
        have i1 : (p : Int) + 1 + (n : Int) < (l.length : Int) := by omega
        have i2 : ((p : Int) + 1 + (n : Int)).toNat = p + 1 + n := by omega
        obtain ⟨e, he⟩ : ∃ e, l[p + 1 + n] = e := ⟨_, rfl⟩
        by_cases h61 : e.toNat = 61
        rotate_left
        · have HN := Lib.hid (NN.out (attrP_end (by rw [hn, List.drop_drop, drop_at h1 he]; simp; intro e'; exact h61 (by rw [e']; rfl))))
          have HF := Lib.hid (HO.out.trans (by rw [HN.out] <;> rfl))
          have b61 : ((e.toNat : Int) != 61) = true := by simp; omega
          have b61' : (e.toNat == 61) = false := by simpa using h61
          have HX3 := getD_at (d := 0) h1 he
          have kz := KZ.out
          have B1 := BW.out
          clear h0 hn QW h61
          have z0 : wr.cell? ⟨w.heap.size, 0, none⟩ = some (.int .i64 0) := cell_of_block kz rfl
          have zf0 := frozen_of_block (o := 0) kz
          have z1 : wr.cell? ⟨w.heap.size, 1, none⟩ = some (.string ⟨#[]⟩) := cell_of_block kz rfl
          have zf1 := frozen_of_block (o := 1) kz
          have z2 : wr.cell? ⟨w.heap.size, 2, none⟩ = some (.slice none 0 0) := cell_of_block kz rfl
          have zf2 := frozen_of_block (o := 2) kz
          have z3 : wr.cell? ⟨w.heap.size, 3, none⟩ = some (.int .i64 0) := cell_of_block kz rfl
          have zf3 := frozen_of_block (o := 3) kz
          have z4 : wr.cell? ⟨w.heap.size, 4, none⟩ = some (.int .i64 0) := cell_of_block kz rfl
          have zf4 := frozen_of_block (o := 4) kz
          have z5 : wr.cell? ⟨w.heap.size, 5, none⟩ = some (.string ⟨#[]⟩) := cell_of_block kz rfl
          have zf5 := frozen_of_block (o := 5) kz

          go_wp2_with fail
          have hfin := set6_blk (.int .i64 0) (.string ⟨#[]⟩) (.slice none 0 0) (.int .i64 0) (.int .i64 0) (.string ⟨#[]⟩) kz
          have hbel := set6_below (R := w.heap.size) (.int .i64 0) (.string ⟨#[]⟩) (.slice none 0 0) (.int .i64 0) (.int .i64 0) (.string ⟨#[]⟩) B1 (by omega)
          have hkee := set6_keeps (B := w.heap.size + 1) (R := w.heap.size) wr (.int .i64 0) (.string ⟨#[]⟩) (.slice none 0 0) (.int .i64 0) (.int .i64 0) (.string ⟨#[]⟩) (by omega)
          generalize ((((((wr).setCell ⟨w.heap.size, 0, none⟩ (.int .i64 0)).setCell ⟨w.heap.size, 1, none⟩ (.string ⟨#[]⟩)).setCell ⟨w.heap.size, 2, none⟩ (.slice none 0 0)).setCell ⟨w.heap.size, 3, none⟩ (.int .i64 0)).setCell ⟨w.heap.size, 4, none⟩ (.int .i64 0)).setCell ⟨w.heap.size, 5, none⟩ (.string ⟨#[]⟩) = Wf at hfin hbel hkee ⊢
          have u0 : Wf.cell? ⟨w.heap.size, 0, none⟩ = some (.int .i64 0) := cell_of_block hfin rfl
          have u1 : Wf.cell? ⟨w.heap.size, 1, none⟩ = some (.string ⟨#[]⟩) := cell_of_block hfin rfl
          have u2 : Wf.cell? ⟨w.heap.size, 2, none⟩ = some (.slice none 0 0) := cell_of_block hfin rfl
          have u3 : Wf.cell? ⟨w.heap.size, 3, none⟩ = some (.int .i64 0) := cell_of_block hfin rfl
          have u4 : Wf.cell? ⟨w.heap.size, 4, none⟩ = some (.int .i64 0) := cell_of_block hfin rfl
          have u5 : Wf.cell? ⟨w.heap.size, 5, none⟩ = some (.string ⟨#[]⟩) := cell_of_block hfin rfl
          refine bodyPost_ret (v := .tuple #[.agg #[.int .i64 0, .string ⟨#[]⟩, .slice none 0 0, .int .i64 0, .int .i64 0, .string ⟨#[]⟩], .int .i64 0, .bool false]) (by simp [results, Tryz.results153, go_sem, u0, u1, u2, u3, u4, u5]) rfl ?_
          rw [HF.out]
          exact HdRes.no zeroHd 0 rfl rfl hbel

        obtain rfl : e = 61 := UInt8.toNat_inj.1 (by rw [h61]; rfl)
        have HX3 := getD_at (d := 0) h1 he
        have HM := attrP_mid (t := l.drop (p + 1)) (u := l.drop (p + 1 + n + 1)) (by rw [hn]; exact h0) (by rw [hn, List.drop_drop]; exact drop_at h1 he)
        rw [hn] at HM
        have UQ := Lib.hid (fun w => unquoted_any l (p + 1 + n + 1) w (by omega) (by omega))
        clear h0 hn QW h61
        go_wp2_with fail
        cases hq : quoP (l.drop (p + 1 + n + 1)) with
        | none =>
          have UU := Lib.hid (show ∀ w, Calls Tryz.prog 167 #[.string ⟨l.toArray⟩, .int .i64 ((p : Int) + 1 + (n : Int) + 1)] w fun e w' => e = .returned (.tuple #[.string ⟨#[]⟩, .int .i64 0, .bool false]) ∧ Below w.heap.size w w' from fun w => by have := UQ.out w; rw [hq] at this; simpa [unqV] using this)
          have HN := Lib.hid (NN.out (HM.trans (by rw [hq]; rfl)))
          have HF := Lib.hid (HO.out.trans (by rw [HN.out] <;> rfl))
          refine (UU.out _).mono ?_
          rintro e w3 ⟨rfl, hb3⟩
          have hs3 := hb3.size
          have kz := (hb3.block w.heap.size (by omega)).trans KZ.out
          have B1 := BW.out.trans (hb3.mono BW.out.size)
          clear hq HM UQ UU hb3
          have z0 : w3.cell? ⟨w.heap.size, 0, none⟩ = some (.int .i64 0) := cell_of_block kz rfl
          have zf0 := frozen_of_block (o := 0) kz
          have z1 : w3.cell? ⟨w.heap.size, 1, none⟩ = some (.string ⟨#[]⟩) := cell_of_block kz rfl
          have zf1 := frozen_of_block (o := 1) kz
          have z2 : w3.cell? ⟨w.heap.size, 2, none⟩ = some (.slice none 0 0) := cell_of_block kz rfl
          have zf2 := frozen_of_block (o := 2) kz
          have z3 : w3.cell? ⟨w.heap.size, 3, none⟩ = some (.int .i64 0) := cell_of_block kz rfl
          have zf3 := frozen_of_block (o := 3) kz
          have z4 : w3.cell? ⟨w.heap.size, 4, none⟩ = some (.int .i64 0) := cell_of_block kz rfl
          have zf4 := frozen_of_block (o := 4) kz
          have z5 : w3.cell? ⟨w.heap.size, 5, none⟩ = some (.string ⟨#[]⟩) := cell_of_block kz rfl
          have zf5 := frozen_of_block (o := 5) kz

          go_wp2_with fail
          have hfin := set6_blk (.int .i64 0) (.string ⟨#[]⟩) (.slice none 0 0) (.int .i64 0) (.int .i64 0) (.string ⟨#[]⟩) kz
          have hbel := set6_below (R := w.heap.size) (.int .i64 0) (.string ⟨#[]⟩) (.slice none 0 0) (.int .i64 0) (.int .i64 0) (.string ⟨#[]⟩) B1 (by omega)
          have hkee := set6_keeps (B := w.heap.size + 1) (R := w.heap.size) w3 (.int .i64 0) (.string ⟨#[]⟩) (.slice none 0 0) (.int .i64 0) (.int .i64 0) (.string ⟨#[]⟩) (by omega)
          generalize ((((((w3).setCell ⟨w.heap.size, 0, none⟩ (.int .i64 0)).setCell ⟨w.heap.size, 1, none⟩ (.string ⟨#[]⟩)).setCell ⟨w.heap.size, 2, none⟩ (.slice none 0 0)).setCell ⟨w.heap.size, 3, none⟩ (.int .i64 0)).setCell ⟨w.heap.size, 4, none⟩ (.int .i64 0)).setCell ⟨w.heap.size, 5, none⟩ (.string ⟨#[]⟩) = Wf at hfin hbel hkee ⊢
          have u0 : Wf.cell? ⟨w.heap.size, 0, none⟩ = some (.int .i64 0) := cell_of_block hfin rfl
          have u1 : Wf.cell? ⟨w.heap.size, 1, none⟩ = some (.string ⟨#[]⟩) := cell_of_block hfin rfl
          have u2 : Wf.cell? ⟨w.heap.size, 2, none⟩ = some (.slice none 0 0) := cell_of_block hfin rfl
          have u3 : Wf.cell? ⟨w.heap.size, 3, none⟩ = some (.int .i64 0) := cell_of_block hfin rfl
          have u4 : Wf.cell? ⟨w.heap.size, 4, none⟩ = some (.int .i64 0) := cell_of_block hfin rfl
          have u5 : Wf.cell? ⟨w.heap.size, 5, none⟩ = some (.string ⟨#[]⟩) := cell_of_block hfin rfl
          refine bodyPost_ret (v := .tuple #[.agg #[.int .i64 0, .string ⟨#[]⟩, .slice none 0 0, .int .i64 0, .int .i64 0, .string ⟨#[]⟩], .int .i64 0, .bool false]) (by simp [results, Tryz.results153, go_sem, u0, u1, u2, u3, u4, u5]) rfl ?_
          rw [HF.out]
          exact HdRes.no zeroHd 0 rfl rfl hbel

        | some x =>
          obtain ⟨v, r⟩ := x
          have UU := Lib.hid (show ∀ w, Calls Tryz.prog 167 #[.string ⟨l.toArray⟩, .int .i64 ((p : Int) + 1 + (n : Int) + 1)] w fun e w' => e = .returned (.tuple #[.string ⟨v.toArray⟩, .int .i64 ((l.length - r.length : Nat) : Int), .bool true]) ∧ Below w.heap.size w w' from fun w => by have := UQ.out w; rw [hq] at this; simpa [unqV] using this)
          obtain ⟨nm, hnm⟩ : ∃ nm, (l.drop (p + 1)).take n = nm := ⟨_, rfl⟩
          have hx : (⟨l.toArray⟩ : ByteArray).extract (p + 1) (p + 1 + n) = ⟨nm.toArray⟩ := (ext_mid l (p + 1) n).trans (by rw [hnm])
          have HA := HM.trans (show _ = some ((nm, v), r) by rw [hq, hnm]; rfl)
          have NX := Lib.hid (NM.out (nm, v) r HA)
          have hAS := attrP_suffix HA (by omega)
          have hpr := hAS.2.1
          have hrl := hAS.2.2
          clear hAS
          have hpr' : p + 3 ≤ l.length - r.length := by simp only at hpr; omega
          have s1 : (p : Int) + 1 + (n : Int) ≤ (l.length : Int) := by omega
          have s2 : (p : Int) + 1 ≤ (p : Int) + 1 + (n : Int) := by omega
          have s4 : ((p : Int) + 1).toNat = p + 1 := by omega
          have s5 : IntKind.i64.wrap ((p : Int) + 1) = (p : Int) + 1 := IntWalk.i64_in _ (by omega)
          have s0 : ¬ ((p : Int) + 1 < 0) := by omega
          refine (UU.out _).mono ?_
          rintro e w3 ⟨rfl, hb3⟩
          have hs3 := hb3.size
          have KZX := Lib.hid (show (World.drew w3).heap[w.heap.size]? = _ from (hb3.block w.heap.size (by omega)).trans KZ.out)
          have KHX := Lib.hid (show (World.drew w3).heap[w.heap.size + 1]? = _ from (hb3.block (w.heap.size + 1) (by omega)).trans KH.out)
          have BX := Lib.hid (BW.out.trans (hb3.mono BW.out.size)).drew
          have OX := Lib.hid (show (World.drew w3).ownsRow (w.heap.size + 2) 81 2 (.slice aa sa.length ca) sa.length (attrCells sa) from owns_below OWN.out hb3.drew)
          clear hq HM UQ UU hb3 hnm HA hpr
          go_wp2_with fail
          refine wp_region_any (by kernel_rfl) ?_
          change wpAny _ _ _ _ _ _ _ (World.drew _)
          have hXs : w3.heap.size = (World.drew w3).heap.size := rfl
          generalize World.drew w3 = X at *
          have xv : X.cell? ⟨w.heap.size + 1, 2, none⟩ = some (.slice aa sa.length ca) := cell_of_block KHX.out rfl
          have xa : (X.alloc (.cells #[.string ⟨nm.toArray⟩, .string ⟨v.toArray⟩] 81)).cell? ⟨w.heap.size + 1, 2, none⟩ = some (.slice aa sa.length ca) := cell_of_block ((Below.heap_alloc X _ _ (by omega)).trans KHX.out) rfl
          refine wpAny_take (i := 0) (v := .pointer (some ⟨w.heap.size + 1, 2, none⟩)) rfl (by decide +kernel) (by decide +kernel) (by decide +kernel) (fun _ _ _ h => h) (Or.inl ⟨by kernel_rfl, by intro w; go_simp <;> with_reducible rfl⟩) ?_
          (try simp only [Act.put, List.setIfInBounds_toArray, List.set_cons_zero, List.set_cons_succ])
          refine wpAny_take (i := 2) (v := .string ⟨l.toArray⟩) rfl (by decide +kernel) (by decide +kernel) (by decide +kernel) (fun _ _ _ h => h) (Or.inl ⟨by kernel_rfl, by intro w; go_simp <;> with_reducible rfl⟩) ?_
          (try simp only [Act.put, List.setIfInBounds_toArray, List.set_cons_zero, List.set_cons_succ])
          refine wpAny_take (i := 3) (v := .int .i64 p) rfl (by decide +kernel) (by decide +kernel) (by decide +kernel) (fun _ _ _ h => h) (Or.inl ⟨by kernel_rfl, by intro w; go_simp <;> with_reducible rfl⟩) ?_
          (try simp only [Act.put, List.setIfInBounds_toArray, List.set_cons_zero, List.set_cons_succ])
          refine wpAny_take (i := 4) (v := .int .i64 ((p : Int) + 1)) rfl (by decide +kernel) (by decide +kernel) (by decide +kernel) (fun _ _ _ h => h) (Or.inl ⟨by kernel_rfl, by intro w; go_simp <;> with_reducible rfl⟩) ?_
          (try simp only [Act.put, List.setIfInBounds_toArray, List.set_cons_zero, List.set_cons_succ])
          refine wpAny_take (i := 5) (v := .int .i64 ((p : Int) + 1 + (n : Int))) rfl (by decide +kernel) (by decide +kernel) (by decide +kernel) (fun _ _ _ h => h) (Or.inl ⟨by kernel_rfl, by intro w; go_simp <;> with_reducible rfl⟩) ?_
          (try simp only [Act.put, List.setIfInBounds_toArray, List.set_cons_zero, List.set_cons_succ])
          refine wpAny_take (i := 6) (v := .string ⟨nm.toArray⟩) rfl (by decide +kernel) (by decide +kernel) (by decide +kernel) (fun _ _ _ h => h) (Or.inl ⟨by kernel_rfl, by intro w; go_simp <;> with_reducible rfl⟩) ?_
          (try simp only [Act.put, List.setIfInBounds_toArray, List.set_cons_zero, List.set_cons_succ])
          refine wpAny_take (i := 7) (v := .string ⟨v.toArray⟩) rfl (by decide +kernel) (by decide +kernel) (by decide +kernel) (fun _ _ _ h => h) (Or.inl ⟨by kernel_rfl, by intro w; go_simp <;> with_reducible rfl⟩) ?_
          (try simp only [Act.put, List.setIfInBounds_toArray, List.set_cons_zero, List.set_cons_succ])
          refine wpAny_take (i := 8) (v := .agg #[.string ⟨nm.toArray⟩, .string ⟨v.toArray⟩]) rfl (by decide +kernel) (by decide +kernel) (by decide +kernel) (fun _ _ _ h => h) (Or.inl ⟨by kernel_rfl, by intro w; go_simp <;> with_reducible rfl⟩) ?_
          (try simp only [Act.put, List.setIfInBounds_toArray, List.set_cons_zero, List.set_cons_succ])

          refine wpAny_ready (rs := [1, 9]) (by decide +kernel) (by simp) ?_
          refine AllReady.cons rfl (fun K hK => ?_) (AllReady.cons rfl (fun K hK => ?_) AllReady.nil)
          · go_simp
            refine hK _ _ ?_; clear hK K
            refine wpAny_ready (rs := [9]) (by decide +kernel) (by simp) ?_
            refine AllReady.cons rfl (fun K hK => ?_) AllReady.nil
            go_simp
            refine hK _ _ ?_; clear hK K
            refine wpAny_ready (rs := [10]) (by decide +kernel) (by simp) ?_
            refine AllReady.cons rfl (fun K hK => ?_) AllReady.nil
            rw [if_pos (by kernel_rfl)]
            refine wp_append_own _ _ _ 23 rfl (w.heap.size + 2) 81 i0 (.agg #[.string ⟨#[]⟩, .string ⟨#[]⟩]) 2 32 Tryz.underlying23 hi hz0 hz1 hz2 rfl (by decide) (.slice aa sa.length ca) sa.length (attrCells sa) rfl (OX.out.alloc _) ⟨X.heap.size, 0, none⟩ 1 1 [.string ⟨nm.toArray⟩, .string ⟨v.toArray⟩] rfl rfl ?c1x1 ?c2x1 ?c3x1 ?c4x1 ?c5x1 ?stopx1
            case c1x1 =>
              intro j u hj
              match j, hj with
              | 0, hj => simp at hj; subst hj; simp [Addr.add, go_sem]
              | 1, hj => simp at hj; subst hj; simp [Addr.add, go_sem]
            case c2x1 => intro u hu; simp at hu; rcases hu with rfl | rfl <;> rfl
            case c3x1 => unfold maxLen; omega
            case c4x1 => omega
            case c5x1 => simp; omega
            case stopx1 =>
              intro v' w5 hown' hgrow _
              obtain ⟨g, cap', rfl, hg⟩ : ∃ g cap, v' = .slice (some ⟨g, 0, none⟩) (sa.length + 1) cap ∧ w.heap.size + 2 ≤ g := by
                rcases hown'.2 with ⟨_, h0⟩ | ⟨g, cap, cur, hv, hg, _⟩
                · omega
                · exact ⟨g, cap, hv, hg⟩
              have hlo : ∀ k, (Value.slice aa sa.length ca).ownBlock = some k → w.heap.size + 2 ≤ k := fun k hk => (OX.out.lt k hk).1
              have kh5 := (hgrow.block (w.heap.size + 1) (by simp; omega) (fun e => by have := hlo _ e.symm; omega)).trans ((Below.heap_alloc X _ _ (by omega)).trans KHX.out)
              have kz5 := (hgrow.block w.heap.size (by simp; omega) (fun e => by have := hlo _ e.symm; omega)).trans ((Below.heap_alloc X _ _ (by omega)).trans KZX.out)
              have B5 : Below w.heap.size w w5 := (BX.out.alloc BX.out.size _).grown hgrow (by simp; omega) (fun k hk => by have := hlo k hk; omega)
              have yv5 : w5.cell? ⟨w.heap.size + 1, 2, none⟩ = some (.slice aa sa.length ca) := cell_of_block kh5 rfl
              have yf5 := frozen_of_block (o := 2) kh5
              have O5 := Lib.hid (show (w5.setCell ⟨w.heap.size + 1, 2, none⟩ (.slice (some ⟨g, 0, none⟩) (sa.length + 1) cap')).ownsRow (w.heap.size + 2) 81 2 (.slice (some ⟨g, 0, none⟩) (sa ++ [(nm, v)]).length cap') (sa ++ [(nm, v)]).length (attrCells (sa ++ [(nm, v)])) by
                rw [attrCells_snoc, List.length_append]
                exact owns_set hown' (by omega))
              have KH5 := Lib.hid (show (w5.setCell ⟨w.heap.size + 1, 2, none⟩ (.slice (some ⟨g, 0, none⟩) (sa.length + 1) cap')).heap[w.heap.size + 1]? = _ from set_block kh5)
              have KZ5 := Lib.hid ((set_far (w := w5) (p := w.heap.size + 1) (o := 2) (v := .slice (some ⟨g, 0, none⟩) (sa.length + 1) cap') (k := w.heap.size) (by omega)).trans kz5)
              have B6 := Lib.hid (B5.setCell (p := ⟨w.heap.size + 1, 2, none⟩) (by show w.heap.size ≤ w.heap.size + 1; omega) (.slice (some ⟨g, 0, none⟩) (sa.length + 1) cap'))
              clear hown' hgrow kh5 kz5 B5 hlo
              refine hK _ _ ?_; clear hK K
              refine wpAny_ready (rs := [11]) (by decide +kernel) (by simp) ?_
              refine AllReady.cons rfl (fun K hK => ?_) AllReady.nil
              go_simp
              refine hK _ _ ?_; clear hK K
              refine wpAny_ready (rs := [12]) (by decide +kernel) (by simp) ?_
              refine AllReady.cons rfl (fun K hK => ?_) AllReady.nil
              go_simp
              refine hK _ _ ?_; clear hK K
              refine wpAny_done (by kernel_rfl) ?_ _
              go_wp2_with fail
              go_roundw
              case rel => exact ⟨l.length - r.length, sa ++ [(nm, v)], some ⟨g, 0, none⟩, cap', by go_num, by omega, by simp; omega, NX.out, KZ5.out, by rw [List.length_append]; exact KH5.out, O5.out, B6.out⟩
              case measure => simp [intOf]; omega

          · go_simp
            refine hK _ _ ?_; clear hK K
            refine wpAny_ready (rs := [1]) (by decide +kernel) (by simp) ?_
            refine AllReady.cons rfl (fun K hK => ?_) AllReady.nil
            go_simp
            refine hK _ _ ?_; clear hK K
            refine wpAny_ready (rs := [10]) (by decide +kernel) (by simp) ?_
            refine AllReady.cons rfl (fun K hK => ?_) AllReady.nil
            rw [if_pos (by kernel_rfl)]
            refine wp_append_own _ _ _ 23 rfl (w.heap.size + 2) 81 i0 (.agg #[.string ⟨#[]⟩, .string ⟨#[]⟩]) 2 32 Tryz.underlying23 hi hz0 hz1 hz2 rfl (by decide) (.slice aa sa.length ca) sa.length (attrCells sa) rfl (OX.out.alloc _) ⟨X.heap.size, 0, none⟩ 1 1 [.string ⟨nm.toArray⟩, .string ⟨v.toArray⟩] rfl rfl ?c1x2 ?c2x2 ?c3x2 ?c4x2 ?c5x2 ?stopx2
            case c1x2 =>
              intro j u hj
              match j, hj with
              | 0, hj => simp at hj; subst hj; simp [Addr.add, go_sem]
              | 1, hj => simp at hj; subst hj; simp [Addr.add, go_sem]
            case c2x2 => intro u hu; simp at hu; rcases hu with rfl | rfl <;> rfl
            case c3x2 => unfold maxLen; omega
            case c4x2 => omega
            case c5x2 => simp; omega
            case stopx2 =>
              intro v' w5 hown' hgrow _
              obtain ⟨g, cap', rfl, hg⟩ : ∃ g cap, v' = .slice (some ⟨g, 0, none⟩) (sa.length + 1) cap ∧ w.heap.size + 2 ≤ g := by
                rcases hown'.2 with ⟨_, h0⟩ | ⟨g, cap, cur, hv, hg, _⟩
                · omega
                · exact ⟨g, cap, hv, hg⟩
              have hlo : ∀ k, (Value.slice aa sa.length ca).ownBlock = some k → w.heap.size + 2 ≤ k := fun k hk => (OX.out.lt k hk).1
              have kh5 := (hgrow.block (w.heap.size + 1) (by simp; omega) (fun e => by have := hlo _ e.symm; omega)).trans ((Below.heap_alloc X _ _ (by omega)).trans KHX.out)
              have kz5 := (hgrow.block w.heap.size (by simp; omega) (fun e => by have := hlo _ e.symm; omega)).trans ((Below.heap_alloc X _ _ (by omega)).trans KZX.out)
              have B5 : Below w.heap.size w w5 := (BX.out.alloc BX.out.size _).grown hgrow (by simp; omega) (fun k hk => by have := hlo k hk; omega)
              have yv5 : w5.cell? ⟨w.heap.size + 1, 2, none⟩ = some (.slice aa sa.length ca) := cell_of_block kh5 rfl
              have yf5 := frozen_of_block (o := 2) kh5
              have O5 := Lib.hid (show (w5.setCell ⟨w.heap.size + 1, 2, none⟩ (.slice (some ⟨g, 0, none⟩) (sa.length + 1) cap')).ownsRow (w.heap.size + 2) 81 2 (.slice (some ⟨g, 0, none⟩) (sa ++ [(nm, v)]).length cap') (sa ++ [(nm, v)]).length (attrCells (sa ++ [(nm, v)])) by
                rw [attrCells_snoc, List.length_append]
                exact owns_set hown' (by omega))
              have KH5 := Lib.hid (show (w5.setCell ⟨w.heap.size + 1, 2, none⟩ (.slice (some ⟨g, 0, none⟩) (sa.length + 1) cap')).heap[w.heap.size + 1]? = _ from set_block kh5)
              have KZ5 := Lib.hid ((set_far (w := w5) (p := w.heap.size + 1) (o := 2) (v := .slice (some ⟨g, 0, none⟩) (sa.length + 1) cap') (k := w.heap.size) (by omega)).trans kz5)
              have B6 := Lib.hid (B5.setCell (p := ⟨w.heap.size + 1, 2, none⟩) (by show w.heap.size ≤ w.heap.size + 1; omega) (.slice (some ⟨g, 0, none⟩) (sa.length + 1) cap'))
              clear hown' hgrow kh5 kz5 B5 hlo
              refine hK _ _ ?_; clear hK K
              refine wpAny_ready (rs := [11]) (by decide +kernel) (by simp) ?_
              refine AllReady.cons rfl (fun K hK => ?_) AllReady.nil
              go_simp
              refine hK _ _ ?_; clear hK K
              refine wpAny_ready (rs := [12]) (by decide +kernel) (by simp) ?_
              refine AllReady.cons rfl (fun K hK => ?_) AllReady.nil
              go_simp
              refine hK _ _ ?_; clear hK K
              refine wpAny_done (by kernel_rfl) ?_ _
              go_wp2_with fail
              go_roundw
              case rel => exact ⟨l.length - r.length, sa ++ [(nm, v)], some ⟨g, 0, none⟩, cap', by go_num, by omega, by simp; omega, NX.out, KZ5.out, by rw [List.length_append]; exact KH5.out, O5.out, B6.out⟩
              case measure => simp [intOf]; omega
      · obtain ⟨hlt2, hc2⟩ : ∃ hp : p < l.length, l[p] = 44 := by
          rcases hb with h | h
          · exact absurd h hs0
          · exact head_drop h
        have NM := Lib.hid (fun a r ha => LP.out.more hb (a := a) (r := r) ha hlt2)
        have HX4 := getD_at (d := 0) hlt2 hc2
        have dn : decide (p < l.length) = true := by simpa using hlt2
        have bs : decide (0 < sa.length) = true := by simp; exact List.length_pos_iff.2 hs0
        clear hb LP hs0
        have QW := Lib.hid (fun w => qword_any l (p + 1) w (by omega) (by omega))
        obtain ⟨n, hn⟩ : ∃ n, wordLen (l.drop (p + 1)) = n := ⟨_, rfl⟩
        rw [hn] at QW
        have hnle : p + 1 + n ≤ l.length := by have := wordLen_le (l.drop (p + 1)); simp at this; omega
        go_wp2_with fail
        refine (QW.out _).mono ?_
        rintro e w2 ⟨rfl, hw⟩
        obtain rfl := hw
        by_cases h0 : n = 0
        · have HN := Lib.hid (NN.out (attrP_zero (hn.trans h0)))
          have HF := Lib.hid (HO.out.trans (by rw [HN.out] <;> rfl))
          have bn : ((n : Int) == 0) = true := by simp; omega
          have kz := KZ.out
          have B1 := BW.out
          clear h0 hn QW
          have z0 : wr.cell? ⟨w.heap.size, 0, none⟩ = some (.int .i64 0) := cell_of_block kz rfl
          have zf0 := frozen_of_block (o := 0) kz
          have z1 : wr.cell? ⟨w.heap.size, 1, none⟩ = some (.string ⟨#[]⟩) := cell_of_block kz rfl
          have zf1 := frozen_of_block (o := 1) kz
          have z2 : wr.cell? ⟨w.heap.size, 2, none⟩ = some (.slice none 0 0) := cell_of_block kz rfl
          have zf2 := frozen_of_block (o := 2) kz
          have z3 : wr.cell? ⟨w.heap.size, 3, none⟩ = some (.int .i64 0) := cell_of_block kz rfl
          have zf3 := frozen_of_block (o := 3) kz
          have z4 : wr.cell? ⟨w.heap.size, 4, none⟩ = some (.int .i64 0) := cell_of_block kz rfl
          have zf4 := frozen_of_block (o := 4) kz
          have z5 : wr.cell? ⟨w.heap.size, 5, none⟩ = some (.string ⟨#[]⟩) := cell_of_block kz rfl
          have zf5 := frozen_of_block (o := 5) kz

          go_wp2_with fail
          have hfin := set6_blk (.int .i64 0) (.string ⟨#[]⟩) (.slice none 0 0) (.int .i64 0) (.int .i64 0) (.string ⟨#[]⟩) kz
          have hbel := set6_below (R := w.heap.size) (.int .i64 0) (.string ⟨#[]⟩) (.slice none 0 0) (.int .i64 0) (.int .i64 0) (.string ⟨#[]⟩) B1 (by omega)
          have hkee := set6_keeps (B := w.heap.size + 1) (R := w.heap.size) wr (.int .i64 0) (.string ⟨#[]⟩) (.slice none 0 0) (.int .i64 0) (.int .i64 0) (.string ⟨#[]⟩) (by omega)
          generalize ((((((wr).setCell ⟨w.heap.size, 0, none⟩ (.int .i64 0)).setCell ⟨w.heap.size, 1, none⟩ (.string ⟨#[]⟩)).setCell ⟨w.heap.size, 2, none⟩ (.slice none 0 0)).setCell ⟨w.heap.size, 3, none⟩ (.int .i64 0)).setCell ⟨w.heap.size, 4, none⟩ (.int .i64 0)).setCell ⟨w.heap.size, 5, none⟩ (.string ⟨#[]⟩) = Wf at hfin hbel hkee ⊢
          have u0 : Wf.cell? ⟨w.heap.size, 0, none⟩ = some (.int .i64 0) := cell_of_block hfin rfl
          have u1 : Wf.cell? ⟨w.heap.size, 1, none⟩ = some (.string ⟨#[]⟩) := cell_of_block hfin rfl
          have u2 : Wf.cell? ⟨w.heap.size, 2, none⟩ = some (.slice none 0 0) := cell_of_block hfin rfl
          have u3 : Wf.cell? ⟨w.heap.size, 3, none⟩ = some (.int .i64 0) := cell_of_block hfin rfl
          have u4 : Wf.cell? ⟨w.heap.size, 4, none⟩ = some (.int .i64 0) := cell_of_block hfin rfl
          have u5 : Wf.cell? ⟨w.heap.size, 5, none⟩ = some (.string ⟨#[]⟩) := cell_of_block hfin rfl
          refine bodyPost_ret (v := .tuple #[.agg #[.int .i64 0, .string ⟨#[]⟩, .slice none 0 0, .int .i64 0, .int .i64 0, .string ⟨#[]⟩], .int .i64 0, .bool false]) (by simp [results, Tryz.results153, go_sem, u0, u1, u2, u3, u4, u5]) rfl ?_
          rw [HF.out]
          exact HdRes.no zeroHd 0 rfl rfl hbel

        have bn : ((n : Int) == 0) = false := by simp; omega
        by_cases h1 : p + 1 + n < l.length
        rotate_left
        · have HN := Lib.hid (NN.out (attrP_end (by rw [hn, List.drop_drop, show l.drop (p + 1 + n) = [] by rw [List.drop_eq_nil_iff]; omega]; simp)))
          have HF := Lib.hid (HO.out.trans (by rw [HN.out] <;> rfl))
          have dm : decide ((l.length : Int) ≤ (p : Int) + 1 + (n : Int)) = true := by simp; omega
          have kz := KZ.out
          have B1 := BW.out
          clear h0 hn QW
          have z0 : wr.cell? ⟨w.heap.size, 0, none⟩ = some (.int .i64 0) := cell_of_block kz rfl
          have zf0 := frozen_of_block (o := 0) kz
          have z1 : wr.cell? ⟨w.heap.size, 1, none⟩ = some (.string ⟨#[]⟩) := cell_of_block kz rfl
          have zf1 := frozen_of_block (o := 1) kz
          have z2 : wr.cell? ⟨w.heap.size, 2, none⟩ = some (.slice none 0 0) := cell_of_block kz rfl
          have zf2 := frozen_of_block (o := 2) kz
          have z3 : wr.cell? ⟨w.heap.size, 3, none⟩ = some (.int .i64 0) := cell_of_block kz rfl
          have zf3 := frozen_of_block (o := 3) kz
          have z4 : wr.cell? ⟨w.heap.size, 4, none⟩ = some (.int .i64 0) := cell_of_block kz rfl
          have zf4 := frozen_of_block (o := 4) kz
          have z5 : wr.cell? ⟨w.heap.size, 5, none⟩ = some (.string ⟨#[]⟩) := cell_of_block kz rfl
          have zf5 := frozen_of_block (o := 5) kz

          go_wp2_with fail
          have hfin := set6_blk (.int .i64 0) (.string ⟨#[]⟩) (.slice none 0 0) (.int .i64 0) (.int .i64 0) (.string ⟨#[]⟩) kz
          have hbel := set6_below (R := w.heap.size) (.int .i64 0) (.string ⟨#[]⟩) (.slice none 0 0) (.int .i64 0) (.int .i64 0) (.string ⟨#[]⟩) B1 (by omega)
          have hkee := set6_keeps (B := w.heap.size + 1) (R := w.heap.size) wr (.int .i64 0) (.string ⟨#[]⟩) (.slice none 0 0) (.int .i64 0) (.int .i64 0) (.string ⟨#[]⟩) (by omega)
          generalize ((((((wr).setCell ⟨w.heap.size, 0, none⟩ (.int .i64 0)).setCell ⟨w.heap.size, 1, none⟩ (.string ⟨#[]⟩)).setCell ⟨w.heap.size, 2, none⟩ (.slice none 0 0)).setCell ⟨w.heap.size, 3, none⟩ (.int .i64 0)).setCell ⟨w.heap.size, 4, none⟩ (.int .i64 0)).setCell ⟨w.heap.size, 5, none⟩ (.string ⟨#[]⟩) = Wf at hfin hbel hkee ⊢
          have u0 : Wf.cell? ⟨w.heap.size, 0, none⟩ = some (.int .i64 0) := cell_of_block hfin rfl
          have u1 : Wf.cell? ⟨w.heap.size, 1, none⟩ = some (.string ⟨#[]⟩) := cell_of_block hfin rfl
          have u2 : Wf.cell? ⟨w.heap.size, 2, none⟩ = some (.slice none 0 0) := cell_of_block hfin rfl
          have u3 : Wf.cell? ⟨w.heap.size, 3, none⟩ = some (.int .i64 0) := cell_of_block hfin rfl
          have u4 : Wf.cell? ⟨w.heap.size, 4, none⟩ = some (.int .i64 0) := cell_of_block hfin rfl
          have u5 : Wf.cell? ⟨w.heap.size, 5, none⟩ = some (.string ⟨#[]⟩) := cell_of_block hfin rfl
          refine bodyPost_ret (v := .tuple #[.agg #[.int .i64 0, .string ⟨#[]⟩, .slice none 0 0, .int .i64 0, .int .i64 0, .string ⟨#[]⟩], .int .i64 0, .bool false]) (by simp [results, Tryz.results153, go_sem, u0, u1, u2, u3, u4, u5]) rfl ?_
          rw [HF.out]
          exact HdRes.no zeroHd 0 rfl rfl hbel

        have dm : decide ((l.length : Int) ≤ (p : Int) + 1 + (n : Int)) = false := by simp; omega
        have i0' : (0 : Int) ≤ (p : Int) + 1 + (n : Int) := by omega
        have i1 : (p : Int) + 1 + (n : Int) < (l.length : Int) := by omega
        have i2 : ((p : Int) + 1 + (n : Int)).toNat = p + 1 + n := by omega
        obtain ⟨e, he⟩ : ∃ e, l[p + 1 + n] = e := ⟨_, rfl⟩
        by_cases h61 : e.toNat = 61
        rotate_left
        · have HN := Lib.hid (NN.out (attrP_end (by rw [hn, List.drop_drop, drop_at h1 he]; simp; intro e'; exact h61 (by rw [e']; rfl))))
          have HF := Lib.hid (HO.out.trans (by rw [HN.out] <;> rfl))
          have b61 : ((e.toNat : Int) != 61) = true := by simp; omega
          have b61' : (e.toNat == 61) = false := by simpa using h61
          have HX3 := getD_at (d := 0) h1 he
          have kz := KZ.out
          have B1 := BW.out
          clear h0 hn QW h61
          have z0 : wr.cell? ⟨w.heap.size, 0, none⟩ = some (.int .i64 0) := cell_of_block kz rfl
          have zf0 := frozen_of_block (o := 0) kz
          have z1 : wr.cell? ⟨w.heap.size, 1, none⟩ = some (.string ⟨#[]⟩) := cell_of_block kz rfl
          have zf1 := frozen_of_block (o := 1) kz
          have z2 : wr.cell? ⟨w.heap.size, 2, none⟩ = some (.slice none 0 0) := cell_of_block kz rfl
          have zf2 := frozen_of_block (o := 2) kz
          have z3 : wr.cell? ⟨w.heap.size, 3, none⟩ = some (.int .i64 0) := cell_of_block kz rfl
          have zf3 := frozen_of_block (o := 3) kz
          have z4 : wr.cell? ⟨w.heap.size, 4, none⟩ = some (.int .i64 0) := cell_of_block kz rfl
          have zf4 := frozen_of_block (o := 4) kz
          have z5 : wr.cell? ⟨w.heap.size, 5, none⟩ = some (.string ⟨#[]⟩) := cell_of_block kz rfl
          have zf5 := frozen_of_block (o := 5) kz

          go_wp2_with fail
          have hfin := set6_blk (.int .i64 0) (.string ⟨#[]⟩) (.slice none 0 0) (.int .i64 0) (.int .i64 0) (.string ⟨#[]⟩) kz
          have hbel := set6_below (R := w.heap.size) (.int .i64 0) (.string ⟨#[]⟩) (.slice none 0 0) (.int .i64 0) (.int .i64 0) (.string ⟨#[]⟩) B1 (by omega)
          have hkee := set6_keeps (B := w.heap.size + 1) (R := w.heap.size) wr (.int .i64 0) (.string ⟨#[]⟩) (.slice none 0 0) (.int .i64 0) (.int .i64 0) (.string ⟨#[]⟩) (by omega)
          generalize ((((((wr).setCell ⟨w.heap.size, 0, none⟩ (.int .i64 0)).setCell ⟨w.heap.size, 1, none⟩ (.string ⟨#[]⟩)).setCell ⟨w.heap.size, 2, none⟩ (.slice none 0 0)).setCell ⟨w.heap.size, 3, none⟩ (.int .i64 0)).setCell ⟨w.heap.size, 4, none⟩ (.int .i64 0)).setCell ⟨w.heap.size, 5, none⟩ (.string ⟨#[]⟩) = Wf at hfin hbel hkee ⊢
          have u0 : Wf.cell? ⟨w.heap.size, 0, none⟩ = some (.int .i64 0) := cell_of_block hfin rfl
          have u1 : Wf.cell? ⟨w.heap.size, 1, none⟩ = some (.string ⟨#[]⟩) := cell_of_block hfin rfl
          have u2 : Wf.cell? ⟨w.heap.size, 2, none⟩ = some (.slice none 0 0) := cell_of_block hfin rfl
          have u3 : Wf.cell? ⟨w.heap.size, 3, none⟩ = some (.int .i64 0) := cell_of_block hfin rfl
          have u4 : Wf.cell? ⟨w.heap.size, 4, none⟩ = some (.int .i64 0) := cell_of_block hfin rfl
          have u5 : Wf.cell? ⟨w.heap.size, 5, none⟩ = some (.string ⟨#[]⟩) := cell_of_block hfin rfl
          refine bodyPost_ret (v := .tuple #[.agg #[.int .i64 0, .string ⟨#[]⟩, .slice none 0 0, .int .i64 0, .int .i64 0, .string ⟨#[]⟩], .int .i64 0, .bool false]) (by simp [results, Tryz.results153, go_sem, u0, u1, u2, u3, u4, u5]) rfl ?_
          rw [HF.out]
          exact HdRes.no zeroHd 0 rfl rfl hbel

        obtain rfl : e = 61 := UInt8.toNat_inj.1 (by rw [h61]; rfl)
        have HX3 := getD_at (d := 0) h1 he
        have HM := attrP_mid (t := l.drop (p + 1)) (u := l.drop (p + 1 + n + 1)) (by rw [hn]; exact h0) (by rw [hn, List.drop_drop]; exact drop_at h1 he)
        rw [hn] at HM
        have UQ := Lib.hid (fun w => unquoted_any l (p + 1 + n + 1) w (by omega) (by omega))
        clear h0 hn QW h61
        go_wp2_with fail
        cases hq : quoP (l.drop (p + 1 + n + 1)) with
        | none =>
          have UU := Lib.hid (show ∀ w, Calls Tryz.prog 167 #[.string ⟨l.toArray⟩, .int .i64 ((p : Int) + 1 + (n : Int) + 1)] w fun e w' => e = .returned (.tuple #[.string ⟨#[]⟩, .int .i64 0, .bool false]) ∧ Below w.heap.size w w' from fun w => by have := UQ.out w; rw [hq] at this; simpa [unqV] using this)
          have HN := Lib.hid (NN.out (HM.trans (by rw [hq]; rfl)))
          have HF := Lib.hid (HO.out.trans (by rw [HN.out] <;> rfl))
          refine (UU.out _).mono ?_
          rintro e w3 ⟨rfl, hb3⟩
          have hs3 := hb3.size
          have kz := (hb3.block w.heap.size (by omega)).trans KZ.out
          have B1 := BW.out.trans (hb3.mono BW.out.size)
          clear hq HM UQ UU hb3
          have z0 : w3.cell? ⟨w.heap.size, 0, none⟩ = some (.int .i64 0) := cell_of_block kz rfl
          have zf0 := frozen_of_block (o := 0) kz
          have z1 : w3.cell? ⟨w.heap.size, 1, none⟩ = some (.string ⟨#[]⟩) := cell_of_block kz rfl
          have zf1 := frozen_of_block (o := 1) kz
          have z2 : w3.cell? ⟨w.heap.size, 2, none⟩ = some (.slice none 0 0) := cell_of_block kz rfl
          have zf2 := frozen_of_block (o := 2) kz
          have z3 : w3.cell? ⟨w.heap.size, 3, none⟩ = some (.int .i64 0) := cell_of_block kz rfl
          have zf3 := frozen_of_block (o := 3) kz
          have z4 : w3.cell? ⟨w.heap.size, 4, none⟩ = some (.int .i64 0) := cell_of_block kz rfl
          have zf4 := frozen_of_block (o := 4) kz
          have z5 : w3.cell? ⟨w.heap.size, 5, none⟩ = some (.string ⟨#[]⟩) := cell_of_block kz rfl
          have zf5 := frozen_of_block (o := 5) kz

          go_wp2_with fail
          have hfin := set6_blk (.int .i64 0) (.string ⟨#[]⟩) (.slice none 0 0) (.int .i64 0) (.int .i64 0) (.string ⟨#[]⟩) kz
          have hbel := set6_below (R := w.heap.size) (.int .i64 0) (.string ⟨#[]⟩) (.slice none 0 0) (.int .i64 0) (.int .i64 0) (.string ⟨#[]⟩) B1 (by omega)
          have hkee := set6_keeps (B := w.heap.size + 1) (R := w.heap.size) w3 (.int .i64 0) (.string ⟨#[]⟩) (.slice none 0 0) (.int .i64 0) (.int .i64 0) (.string ⟨#[]⟩) (by omega)
          generalize ((((((w3).setCell ⟨w.heap.size, 0, none⟩ (.int .i64 0)).setCell ⟨w.heap.size, 1, none⟩ (.string ⟨#[]⟩)).setCell ⟨w.heap.size, 2, none⟩ (.slice none 0 0)).setCell ⟨w.heap.size, 3, none⟩ (.int .i64 0)).setCell ⟨w.heap.size, 4, none⟩ (.int .i64 0)).setCell ⟨w.heap.size, 5, none⟩ (.string ⟨#[]⟩) = Wf at hfin hbel hkee ⊢
          have u0 : Wf.cell? ⟨w.heap.size, 0, none⟩ = some (.int .i64 0) := cell_of_block hfin rfl
          have u1 : Wf.cell? ⟨w.heap.size, 1, none⟩ = some (.string ⟨#[]⟩) := cell_of_block hfin rfl
          have u2 : Wf.cell? ⟨w.heap.size, 2, none⟩ = some (.slice none 0 0) := cell_of_block hfin rfl
          have u3 : Wf.cell? ⟨w.heap.size, 3, none⟩ = some (.int .i64 0) := cell_of_block hfin rfl
          have u4 : Wf.cell? ⟨w.heap.size, 4, none⟩ = some (.int .i64 0) := cell_of_block hfin rfl
          have u5 : Wf.cell? ⟨w.heap.size, 5, none⟩ = some (.string ⟨#[]⟩) := cell_of_block hfin rfl
          refine bodyPost_ret (v := .tuple #[.agg #[.int .i64 0, .string ⟨#[]⟩, .slice none 0 0, .int .i64 0, .int .i64 0, .string ⟨#[]⟩], .int .i64 0, .bool false]) (by simp [results, Tryz.results153, go_sem, u0, u1, u2, u3, u4, u5]) rfl ?_
          rw [HF.out]
          exact HdRes.no zeroHd 0 rfl rfl hbel

        | some x =>
          obtain ⟨v, r⟩ := x
          have UU := Lib.hid (show ∀ w, Calls Tryz.prog 167 #[.string ⟨l.toArray⟩, .int .i64 ((p : Int) + 1 + (n : Int) + 1)] w fun e w' => e = .returned (.tuple #[.string ⟨v.toArray⟩, .int .i64 ((l.length - r.length : Nat) : Int), .bool true]) ∧ Below w.heap.size w w' from fun w => by have := UQ.out w; rw [hq] at this; simpa [unqV] using this)
          obtain ⟨nm, hnm⟩ : ∃ nm, (l.drop (p + 1)).take n = nm := ⟨_, rfl⟩
          have hx : (⟨l.toArray⟩ : ByteArray).extract (p + 1) (p + 1 + n) = ⟨nm.toArray⟩ := (ext_mid l (p + 1) n).trans (by rw [hnm])
          have HA := HM.trans (show _ = some ((nm, v), r) by rw [hq, hnm]; rfl)
          have NX := Lib.hid (NM.out (nm, v) r HA)
          have hAS := attrP_suffix HA (by omega)
          have hpr := hAS.2.1
          have hrl := hAS.2.2
          clear hAS
          have hpr' : p + 3 ≤ l.length - r.length := by simp only at hpr; omega
          have s1 : (p : Int) + 1 + (n : Int) ≤ (l.length : Int) := by omega
          have s2 : (p : Int) + 1 ≤ (p : Int) + 1 + (n : Int) := by omega
          have s4 : ((p : Int) + 1).toNat = p + 1 := by omega
          have s5 : IntKind.i64.wrap ((p : Int) + 1) = (p : Int) + 1 := IntWalk.i64_in _ (by omega)
          have s0 : ¬ ((p : Int) + 1 < 0) := by omega
          refine (UU.out _).mono ?_
          rintro e w3 ⟨rfl, hb3⟩
          have hs3 := hb3.size
          have KZX := Lib.hid (show (World.drew w3).heap[w.heap.size]? = _ from (hb3.block w.heap.size (by omega)).trans KZ.out)
          have KHX := Lib.hid (show (World.drew w3).heap[w.heap.size + 1]? = _ from (hb3.block (w.heap.size + 1) (by omega)).trans KH.out)
          have BX := Lib.hid (BW.out.trans (hb3.mono BW.out.size)).drew
          have OX := Lib.hid (show (World.drew w3).ownsRow (w.heap.size + 2) 81 2 (.slice aa sa.length ca) sa.length (attrCells sa) from owns_below OWN.out hb3.drew)
          clear hq HM UQ UU hb3 hnm HA hpr
          go_wp2_with fail
          refine wp_region_any (by kernel_rfl) ?_
          change wpAny _ _ _ _ _ _ _ (World.drew _)
          have hXs : w3.heap.size = (World.drew w3).heap.size := rfl
          generalize World.drew w3 = X at *
          have xv : X.cell? ⟨w.heap.size + 1, 2, none⟩ = some (.slice aa sa.length ca) := cell_of_block KHX.out rfl
          have xa : (X.alloc (.cells #[.string ⟨nm.toArray⟩, .string ⟨v.toArray⟩] 81)).cell? ⟨w.heap.size + 1, 2, none⟩ = some (.slice aa sa.length ca) := cell_of_block ((Below.heap_alloc X _ _ (by omega)).trans KHX.out) rfl
          refine wpAny_take (i := 0) (v := .pointer (some ⟨w.heap.size + 1, 2, none⟩)) rfl (by decide +kernel) (by decide +kernel) (by decide +kernel) (fun _ _ _ h => h) (Or.inl ⟨by kernel_rfl, by intro w; go_simp <;> with_reducible rfl⟩) ?_
          (try simp only [Act.put, List.setIfInBounds_toArray, List.set_cons_zero, List.set_cons_succ])
          refine wpAny_take (i := 2) (v := .string ⟨l.toArray⟩) rfl (by decide +kernel) (by decide +kernel) (by decide +kernel) (fun _ _ _ h => h) (Or.inl ⟨by kernel_rfl, by intro w; go_simp <;> with_reducible rfl⟩) ?_
          (try simp only [Act.put, List.setIfInBounds_toArray, List.set_cons_zero, List.set_cons_succ])
          refine wpAny_take (i := 3) (v := .int .i64 p) rfl (by decide +kernel) (by decide +kernel) (by decide +kernel) (fun _ _ _ h => h) (Or.inl ⟨by kernel_rfl, by intro w; go_simp <;> with_reducible rfl⟩) ?_
          (try simp only [Act.put, List.setIfInBounds_toArray, List.set_cons_zero, List.set_cons_succ])
          refine wpAny_take (i := 4) (v := .int .i64 ((p : Int) + 1)) rfl (by decide +kernel) (by decide +kernel) (by decide +kernel) (fun _ _ _ h => h) (Or.inl ⟨by kernel_rfl, by intro w; go_simp <;> with_reducible rfl⟩) ?_
          (try simp only [Act.put, List.setIfInBounds_toArray, List.set_cons_zero, List.set_cons_succ])
          refine wpAny_take (i := 5) (v := .int .i64 ((p : Int) + 1 + (n : Int))) rfl (by decide +kernel) (by decide +kernel) (by decide +kernel) (fun _ _ _ h => h) (Or.inl ⟨by kernel_rfl, by intro w; go_simp <;> with_reducible rfl⟩) ?_
          (try simp only [Act.put, List.setIfInBounds_toArray, List.set_cons_zero, List.set_cons_succ])
          refine wpAny_take (i := 6) (v := .string ⟨nm.toArray⟩) rfl (by decide +kernel) (by decide +kernel) (by decide +kernel) (fun _ _ _ h => h) (Or.inl ⟨by kernel_rfl, by intro w; go_simp <;> with_reducible rfl⟩) ?_
          (try simp only [Act.put, List.setIfInBounds_toArray, List.set_cons_zero, List.set_cons_succ])
          refine wpAny_take (i := 7) (v := .string ⟨v.toArray⟩) rfl (by decide +kernel) (by decide +kernel) (by decide +kernel) (fun _ _ _ h => h) (Or.inl ⟨by kernel_rfl, by intro w; go_simp <;> with_reducible rfl⟩) ?_
          (try simp only [Act.put, List.setIfInBounds_toArray, List.set_cons_zero, List.set_cons_succ])
          refine wpAny_take (i := 8) (v := .agg #[.string ⟨nm.toArray⟩, .string ⟨v.toArray⟩]) rfl (by decide +kernel) (by decide +kernel) (by decide +kernel) (fun _ _ _ h => h) (Or.inl ⟨by kernel_rfl, by intro w; go_simp <;> with_reducible rfl⟩) ?_
          (try simp only [Act.put, List.setIfInBounds_toArray, List.set_cons_zero, List.set_cons_succ])

          refine wpAny_ready (rs := [1, 9]) (by decide +kernel) (by simp) ?_
          refine AllReady.cons rfl (fun K hK => ?_) (AllReady.cons rfl (fun K hK => ?_) AllReady.nil)
          · go_simp
            refine hK _ _ ?_; clear hK K
            refine wpAny_ready (rs := [9]) (by decide +kernel) (by simp) ?_
            refine AllReady.cons rfl (fun K hK => ?_) AllReady.nil
            go_simp
            refine hK _ _ ?_; clear hK K
            refine wpAny_ready (rs := [10]) (by decide +kernel) (by simp) ?_
            refine AllReady.cons rfl (fun K hK => ?_) AllReady.nil
            rw [if_pos (by kernel_rfl)]
            refine wp_append_own _ _ _ 23 rfl (w.heap.size + 2) 81 i0 (.agg #[.string ⟨#[]⟩, .string ⟨#[]⟩]) 2 32 Tryz.underlying23 hi hz0 hz1 hz2 rfl (by decide) (.slice aa sa.length ca) sa.length (attrCells sa) rfl (OX.out.alloc _) ⟨X.heap.size, 0, none⟩ 1 1 [.string ⟨nm.toArray⟩, .string ⟨v.toArray⟩] rfl rfl ?c1x3 ?c2x3 ?c3x3 ?c4x3 ?c5x3 ?stopx3
            case c1x3 =>
              intro j u hj
              match j, hj with
              | 0, hj => simp at hj; subst hj; simp [Addr.add, go_sem]
              | 1, hj => simp at hj; subst hj; simp [Addr.add, go_sem]
            case c2x3 => intro u hu; simp at hu; rcases hu with rfl | rfl <;> rfl
            case c3x3 => unfold maxLen; omega
            case c4x3 => omega
            case c5x3 => simp; omega
            case stopx3 =>
              intro v' w5 hown' hgrow _
              obtain ⟨g, cap', rfl, hg⟩ : ∃ g cap, v' = .slice (some ⟨g, 0, none⟩) (sa.length + 1) cap ∧ w.heap.size + 2 ≤ g := by
                rcases hown'.2 with ⟨_, h0⟩ | ⟨g, cap, cur, hv, hg, _⟩
                · omega
                · exact ⟨g, cap, hv, hg⟩
              have hlo : ∀ k, (Value.slice aa sa.length ca).ownBlock = some k → w.heap.size + 2 ≤ k := fun k hk => (OX.out.lt k hk).1
              have kh5 := (hgrow.block (w.heap.size + 1) (by simp; omega) (fun e => by have := hlo _ e.symm; omega)).trans ((Below.heap_alloc X _ _ (by omega)).trans KHX.out)
              have kz5 := (hgrow.block w.heap.size (by simp; omega) (fun e => by have := hlo _ e.symm; omega)).trans ((Below.heap_alloc X _ _ (by omega)).trans KZX.out)
              have B5 : Below w.heap.size w w5 := (BX.out.alloc BX.out.size _).grown hgrow (by simp; omega) (fun k hk => by have := hlo k hk; omega)
              have yv5 : w5.cell? ⟨w.heap.size + 1, 2, none⟩ = some (.slice aa sa.length ca) := cell_of_block kh5 rfl
              have yf5 := frozen_of_block (o := 2) kh5
              have O5 := Lib.hid (show (w5.setCell ⟨w.heap.size + 1, 2, none⟩ (.slice (some ⟨g, 0, none⟩) (sa.length + 1) cap')).ownsRow (w.heap.size + 2) 81 2 (.slice (some ⟨g, 0, none⟩) (sa ++ [(nm, v)]).length cap') (sa ++ [(nm, v)]).length (attrCells (sa ++ [(nm, v)])) by
                rw [attrCells_snoc, List.length_append]
                exact owns_set hown' (by omega))
              have KH5 := Lib.hid (show (w5.setCell ⟨w.heap.size + 1, 2, none⟩ (.slice (some ⟨g, 0, none⟩) (sa.length + 1) cap')).heap[w.heap.size + 1]? = _ from set_block kh5)
              have KZ5 := Lib.hid ((set_far (w := w5) (p := w.heap.size + 1) (o := 2) (v := .slice (some ⟨g, 0, none⟩) (sa.length + 1) cap') (k := w.heap.size) (by omega)).trans kz5)
              have B6 := Lib.hid (B5.setCell (p := ⟨w.heap.size + 1, 2, none⟩) (by show w.heap.size ≤ w.heap.size + 1; omega) (.slice (some ⟨g, 0, none⟩) (sa.length + 1) cap'))
              clear hown' hgrow kh5 kz5 B5 hlo
              refine hK _ _ ?_; clear hK K
              refine wpAny_ready (rs := [11]) (by decide +kernel) (by simp) ?_
              refine AllReady.cons rfl (fun K hK => ?_) AllReady.nil
              go_simp
              refine hK _ _ ?_; clear hK K
              refine wpAny_ready (rs := [12]) (by decide +kernel) (by simp) ?_
              refine AllReady.cons rfl (fun K hK => ?_) AllReady.nil
              go_simp
              refine hK _ _ ?_; clear hK K
              refine wpAny_done (by kernel_rfl) ?_ _
              go_wp2_with fail
              go_roundw
              case rel => exact ⟨l.length - r.length, sa ++ [(nm, v)], some ⟨g, 0, none⟩, cap', by go_num, by omega, by simp; omega, NX.out, KZ5.out, by rw [List.length_append]; exact KH5.out, O5.out, B6.out⟩
              case measure => simp [intOf]; omega

          · go_simp
            refine hK _ _ ?_; clear hK K
            refine wpAny_ready (rs := [1]) (by decide +kernel) (by simp) ?_
            refine AllReady.cons rfl (fun K hK => ?_) AllReady.nil
            go_simp
            refine hK _ _ ?_; clear hK K
            refine wpAny_ready (rs := [10]) (by decide +kernel) (by simp) ?_
            refine AllReady.cons rfl (fun K hK => ?_) AllReady.nil
            rw [if_pos (by kernel_rfl)]
            refine wp_append_own _ _ _ 23 rfl (w.heap.size + 2) 81 i0 (.agg #[.string ⟨#[]⟩, .string ⟨#[]⟩]) 2 32 Tryz.underlying23 hi hz0 hz1 hz2 rfl (by decide) (.slice aa sa.length ca) sa.length (attrCells sa) rfl (OX.out.alloc _) ⟨X.heap.size, 0, none⟩ 1 1 [.string ⟨nm.toArray⟩, .string ⟨v.toArray⟩] rfl rfl ?c1x4 ?c2x4 ?c3x4 ?c4x4 ?c5x4 ?stopx4
            case c1x4 =>
              intro j u hj
              match j, hj with
              | 0, hj => simp at hj; subst hj; simp [Addr.add, go_sem]
              | 1, hj => simp at hj; subst hj; simp [Addr.add, go_sem]
            case c2x4 => intro u hu; simp at hu; rcases hu with rfl | rfl <;> rfl
            case c3x4 => unfold maxLen; omega
            case c4x4 => omega
            case c5x4 => simp; omega
            case stopx4 =>
              intro v' w5 hown' hgrow _
              obtain ⟨g, cap', rfl, hg⟩ : ∃ g cap, v' = .slice (some ⟨g, 0, none⟩) (sa.length + 1) cap ∧ w.heap.size + 2 ≤ g := by
                rcases hown'.2 with ⟨_, h0⟩ | ⟨g, cap, cur, hv, hg, _⟩
                · omega
                · exact ⟨g, cap, hv, hg⟩
              have hlo : ∀ k, (Value.slice aa sa.length ca).ownBlock = some k → w.heap.size + 2 ≤ k := fun k hk => (OX.out.lt k hk).1
              have kh5 := (hgrow.block (w.heap.size + 1) (by simp; omega) (fun e => by have := hlo _ e.symm; omega)).trans ((Below.heap_alloc X _ _ (by omega)).trans KHX.out)
              have kz5 := (hgrow.block w.heap.size (by simp; omega) (fun e => by have := hlo _ e.symm; omega)).trans ((Below.heap_alloc X _ _ (by omega)).trans KZX.out)
              have B5 : Below w.heap.size w w5 := (BX.out.alloc BX.out.size _).grown hgrow (by simp; omega) (fun k hk => by have := hlo k hk; omega)
              have yv5 : w5.cell? ⟨w.heap.size + 1, 2, none⟩ = some (.slice aa sa.length ca) := cell_of_block kh5 rfl
              have yf5 := frozen_of_block (o := 2) kh5
              have O5 := Lib.hid (show (w5.setCell ⟨w.heap.size + 1, 2, none⟩ (.slice (some ⟨g, 0, none⟩) (sa.length + 1) cap')).ownsRow (w.heap.size + 2) 81 2 (.slice (some ⟨g, 0, none⟩) (sa ++ [(nm, v)]).length cap') (sa ++ [(nm, v)]).length (attrCells (sa ++ [(nm, v)])) by
                rw [attrCells_snoc, List.length_append]
                exact owns_set hown' (by omega))
              have KH5 := Lib.hid (show (w5.setCell ⟨w.heap.size + 1, 2, none⟩ (.slice (some ⟨g, 0, none⟩) (sa.length + 1) cap')).heap[w.heap.size + 1]? = _ from set_block kh5)
              have KZ5 := Lib.hid ((set_far (w := w5) (p := w.heap.size + 1) (o := 2) (v := .slice (some ⟨g, 0, none⟩) (sa.length + 1) cap') (k := w.heap.size) (by omega)).trans kz5)
              have B6 := Lib.hid (B5.setCell (p := ⟨w.heap.size + 1, 2, none⟩) (by show w.heap.size ≤ w.heap.size + 1; omega) (.slice (some ⟨g, 0, none⟩) (sa.length + 1) cap'))
              clear hown' hgrow kh5 kz5 B5 hlo
              refine hK _ _ ?_; clear hK K
              refine wpAny_ready (rs := [11]) (by decide +kernel) (by simp) ?_
              refine AllReady.cons rfl (fun K hK => ?_) AllReady.nil
              go_simp
              refine hK _ _ ?_; clear hK K
              refine wpAny_ready (rs := [12]) (by decide +kernel) (by simp) ?_
              refine AllReady.cons rfl (fun K hK => ?_) AllReady.nil
              go_simp
              refine hK _ _ ?_; clear hK K
              refine wpAny_done (by kernel_rfl) ?_ _
              go_wp2_with fail
              go_roundw
              case rel => exact ⟨l.length - r.length, sa ++ [(nm, v)], some ⟨g, 0, none⟩, cap', by go_num, by omega, by simp; omega, NX.out, KZ5.out, by rw [List.length_append]; exact KH5.out, O5.out, B6.out⟩
              case measure => simp [intOf]; omega
    · have hs0 : sa ≠ [] := fun e => hb (.inl e)
      have h44 : (l.drop p).head? ≠ some 44 := fun e => hb (.inr e)
      have HE := Lib.hid (LP.out.stop hs0 h44)
      have bs : ((sa.length : Int) == 0) = false := by have := List.length_pos_iff.2 hs0; simp; omega
      have kz := KZ.out
      have B1 := BW.out
      clear hb LP hs0
      by_cases hlt2 : p < l.length
      · obtain ⟨d, hd⟩ : ∃ d, l[p] = d := ⟨_, rfl⟩
        have HX4 := getD_at (d := 0) hlt2 hd
        have HDD := drop_at hlt2 hd
        rw [HDD] at h44
        have n44 : d.toNat ≠ 44 := fun e => h44 (by rw [show d = 44 from UInt8.toNat_inj.1 (by rw [e]; rfl)]; rfl)
        have dn : decide (p < l.length) = true := by simpa using hlt2
        have dn' : decide ((l.length : Int) ≤ (p : Int)) = false := by simp; omega
        have b44 : ((d.toNat : Int) == 44) = false := by simp; omega
        have b44' : (d.toNat == 44) = false := by simpa using n44
        by_cases n41 : d.toNat = 41
        · obtain rfl : d = 41 := UInt8.toNat_inj.1 (by rw [n41]; rfl)
          have HF := Lib.hid (HO.out.trans (show _ = some (⟨0, lab, sa, 0, 0, []⟩, l.drop (p + 1)) by rw [HE.out, HDD]; rfl))
          have hlen : l.length - (l.drop (p + 1)).length = p + 1 := by simp; omega
          have FA := Lib.hid (attrsF_owned OWN.out (by omega))
          clear n44 h44 n41 HDD
          have z0 : wr.cell? ⟨w.heap.size, 0, none⟩ = some (.int .i64 0) := cell_of_block kz rfl
          have zf0 := frozen_of_block (o := 0) kz
          have z1 : wr.cell? ⟨w.heap.size, 1, none⟩ = some (.string ⟨#[]⟩) := cell_of_block kz rfl
          have zf1 := frozen_of_block (o := 1) kz
          have z2 : wr.cell? ⟨w.heap.size, 2, none⟩ = some (.slice none 0 0) := cell_of_block kz rfl
          have zf2 := frozen_of_block (o := 2) kz
          have z3 : wr.cell? ⟨w.heap.size, 3, none⟩ = some (.int .i64 0) := cell_of_block kz rfl
          have zf3 := frozen_of_block (o := 3) kz
          have z4 : wr.cell? ⟨w.heap.size, 4, none⟩ = some (.int .i64 0) := cell_of_block kz rfl
          have zf4 := frozen_of_block (o := 4) kz
          have z5 : wr.cell? ⟨w.heap.size, 5, none⟩ = some (.string ⟨#[]⟩) := cell_of_block kz rfl
          have zf5 := frozen_of_block (o := 5) kz
          have y0 : wr.cell? ⟨w.heap.size + 1, 0, none⟩ = some (.int .i64 0) := cell_of_block KH.out rfl
          have y1 : wr.cell? ⟨w.heap.size + 1, 1, none⟩ = some (.string ⟨lab.toArray⟩) := cell_of_block KH.out rfl
          have y2 : wr.cell? ⟨w.heap.size + 1, 2, none⟩ = some (.slice aa sa.length ca) := cell_of_block KH.out rfl
          have y3 : wr.cell? ⟨w.heap.size + 1, 3, none⟩ = some (.int .i64 0) := cell_of_block KH.out rfl
          have y4 : wr.cell? ⟨w.heap.size + 1, 4, none⟩ = some (.int .i64 0) := cell_of_block KH.out rfl
          have y5 : wr.cell? ⟨w.heap.size + 1, 5, none⟩ = some (.string ⟨#[]⟩) := cell_of_block KH.out rfl

          have nn : ¬ w.heap.size + 1 = w.heap.size := by omega
          go_wp2_with fail
          have hfin := set6_blk (.int .i64 0) (.string ⟨lab.toArray⟩) (.slice aa sa.length ca) (.int .i64 0) (.int .i64 0) (.string ⟨#[]⟩) kz
          have hbel := set6_below (R := w.heap.size) (.int .i64 0) (.string ⟨lab.toArray⟩) (.slice aa sa.length ca) (.int .i64 0) (.int .i64 0) (.string ⟨#[]⟩) B1 (by omega)
          have hkee := set6_keeps (B := w.heap.size + 1) (R := w.heap.size) wr (.int .i64 0) (.string ⟨lab.toArray⟩) (.slice aa sa.length ca) (.int .i64 0) (.int .i64 0) (.string ⟨#[]⟩) (by omega)
          generalize ((((((wr).setCell ⟨w.heap.size, 0, none⟩ (.int .i64 0)).setCell ⟨w.heap.size, 1, none⟩ (.string ⟨lab.toArray⟩)).setCell ⟨w.heap.size, 2, none⟩ (.slice aa sa.length ca)).setCell ⟨w.heap.size, 3, none⟩ (.int .i64 0)).setCell ⟨w.heap.size, 4, none⟩ (.int .i64 0)).setCell ⟨w.heap.size, 5, none⟩ (.string ⟨#[]⟩) = Wf at hfin hbel hkee ⊢
          have u0 : Wf.cell? ⟨w.heap.size, 0, none⟩ = some (.int .i64 0) := cell_of_block hfin rfl
          have u1 : Wf.cell? ⟨w.heap.size, 1, none⟩ = some (.string ⟨lab.toArray⟩) := cell_of_block hfin rfl
          have u2 : Wf.cell? ⟨w.heap.size, 2, none⟩ = some (.slice aa sa.length ca) := cell_of_block hfin rfl
          have u3 : Wf.cell? ⟨w.heap.size, 3, none⟩ = some (.int .i64 0) := cell_of_block hfin rfl
          have u4 : Wf.cell? ⟨w.heap.size, 4, none⟩ = some (.int .i64 0) := cell_of_block hfin rfl
          have u5 : Wf.cell? ⟨w.heap.size, 5, none⟩ = some (.string ⟨#[]⟩) := cell_of_block hfin rfl
          refine bodyPost_ret (v := .tuple #[.agg #[.int .i64 0, .string ⟨lab.toArray⟩, .slice aa sa.length ca, .int .i64 0, .int .i64 0, .string ⟨#[]⟩], .int .i64 ((p : Int) + 1), .bool true]) (by simp [results, Tryz.results153, go_sem, u0, u1, u2, u3, u4, u5]) rfl ?_
          rw [HF.out]
          exact ⟨⟨0, lab, sa, 0, 0, []⟩, aa, ca, _, rfl, fun x r hx => (by cases hx; exact ⟨rfl, by rw [hlen] <;> simp⟩), attrsF_mono (by omega) (attrsF_keeps (attrsF_mono (by omega : w.heap.size + 1 ≤ w.heap.size + 2) FA.out) hkee), hbel⟩
        · have HF := Lib.hid (HO.out.trans (show _ = none by rw [HE.out, HDD]; simp [expP, n41]))
          have b41 : ((d.toNat : Int) != 41) = true := by simp; omega
          have b41' : (d.toNat == 41) = false := by simpa using n41
          by_cases n40 : d.toNat = 40
          · obtain rfl : d = 40 := UInt8.toNat_inj.1 (by rw [n40]; rfl)
            clear n44 h44 n41 n40 HDD
            have z0 : wr.cell? ⟨w.heap.size, 0, none⟩ = some (.int .i64 0) := cell_of_block kz rfl
            have zf0 := frozen_of_block (o := 0) kz
            have z1 : wr.cell? ⟨w.heap.size, 1, none⟩ = some (.string ⟨#[]⟩) := cell_of_block kz rfl
            have zf1 := frozen_of_block (o := 1) kz
            have z2 : wr.cell? ⟨w.heap.size, 2, none⟩ = some (.slice none 0 0) := cell_of_block kz rfl
            have zf2 := frozen_of_block (o := 2) kz
            have z3 : wr.cell? ⟨w.heap.size, 3, none⟩ = some (.int .i64 0) := cell_of_block kz rfl
            have zf3 := frozen_of_block (o := 3) kz
            have z4 : wr.cell? ⟨w.heap.size, 4, none⟩ = some (.int .i64 0) := cell_of_block kz rfl
            have zf4 := frozen_of_block (o := 4) kz
            have z5 : wr.cell? ⟨w.heap.size, 5, none⟩ = some (.string ⟨#[]⟩) := cell_of_block kz rfl
            have zf5 := frozen_of_block (o := 5) kz

            go_wp2_with fail
            have hfin := set6_blk (.int .i64 0) (.string ⟨#[]⟩) (.slice none 0 0) (.int .i64 0) (.int .i64 0) (.string ⟨#[]⟩) kz
            have hbel := set6_below (R := w.heap.size) (.int .i64 0) (.string ⟨#[]⟩) (.slice none 0 0) (.int .i64 0) (.int .i64 0) (.string ⟨#[]⟩) B1 (by omega)
            have hkee := set6_keeps (B := w.heap.size + 1) (R := w.heap.size) wr (.int .i64 0) (.string ⟨#[]⟩) (.slice none 0 0) (.int .i64 0) (.int .i64 0) (.string ⟨#[]⟩) (by omega)
            generalize ((((((wr).setCell ⟨w.heap.size, 0, none⟩ (.int .i64 0)).setCell ⟨w.heap.size, 1, none⟩ (.string ⟨#[]⟩)).setCell ⟨w.heap.size, 2, none⟩ (.slice none 0 0)).setCell ⟨w.heap.size, 3, none⟩ (.int .i64 0)).setCell ⟨w.heap.size, 4, none⟩ (.int .i64 0)).setCell ⟨w.heap.size, 5, none⟩ (.string ⟨#[]⟩) = Wf at hfin hbel hkee ⊢
            have u0 : Wf.cell? ⟨w.heap.size, 0, none⟩ = some (.int .i64 0) := cell_of_block hfin rfl
            have u1 : Wf.cell? ⟨w.heap.size, 1, none⟩ = some (.string ⟨#[]⟩) := cell_of_block hfin rfl
            have u2 : Wf.cell? ⟨w.heap.size, 2, none⟩ = some (.slice none 0 0) := cell_of_block hfin rfl
            have u3 : Wf.cell? ⟨w.heap.size, 3, none⟩ = some (.int .i64 0) := cell_of_block hfin rfl
            have u4 : Wf.cell? ⟨w.heap.size, 4, none⟩ = some (.int .i64 0) := cell_of_block hfin rfl
            have u5 : Wf.cell? ⟨w.heap.size, 5, none⟩ = some (.string ⟨#[]⟩) := cell_of_block hfin rfl
            refine bodyPost_ret (v := .tuple #[.agg #[.int .i64 0, .string ⟨#[]⟩, .slice none 0 0, .int .i64 0, .int .i64 0, .string ⟨#[]⟩], .int .i64 0, .bool false]) (by simp [results, Tryz.results153, go_sem, u0, u1, u2, u3, u4, u5]) rfl ?_
            rw [HF.out]
            exact HdRes.no zeroHd 0 rfl rfl hbel
          · have b40 : ((d.toNat : Int) == 40) = false := by simp; omega
            have b40' : (d.toNat == 40) = false := by simpa using n40
            clear n44 h44 n41 n40 HDD
            have z0 : wr.cell? ⟨w.heap.size, 0, none⟩ = some (.int .i64 0) := cell_of_block kz rfl
            have zf0 := frozen_of_block (o := 0) kz
            have z1 : wr.cell? ⟨w.heap.size, 1, none⟩ = some (.string ⟨#[]⟩) := cell_of_block kz rfl
            have zf1 := frozen_of_block (o := 1) kz
            have z2 : wr.cell? ⟨w.heap.size, 2, none⟩ = some (.slice none 0 0) := cell_of_block kz rfl
            have zf2 := frozen_of_block (o := 2) kz
            have z3 : wr.cell? ⟨w.heap.size, 3, none⟩ = some (.int .i64 0) := cell_of_block kz rfl
            have zf3 := frozen_of_block (o := 3) kz
            have z4 : wr.cell? ⟨w.heap.size, 4, none⟩ = some (.int .i64 0) := cell_of_block kz rfl
            have zf4 := frozen_of_block (o := 4) kz
            have z5 : wr.cell? ⟨w.heap.size, 5, none⟩ = some (.string ⟨#[]⟩) := cell_of_block kz rfl
            have zf5 := frozen_of_block (o := 5) kz

            go_wp2_with fail
            have hfin := set6_blk (.int .i64 0) (.string ⟨#[]⟩) (.slice none 0 0) (.int .i64 0) (.int .i64 0) (.string ⟨#[]⟩) kz
            have hbel := set6_below (R := w.heap.size) (.int .i64 0) (.string ⟨#[]⟩) (.slice none 0 0) (.int .i64 0) (.int .i64 0) (.string ⟨#[]⟩) B1 (by omega)
            have hkee := set6_keeps (B := w.heap.size + 1) (R := w.heap.size) wr (.int .i64 0) (.string ⟨#[]⟩) (.slice none 0 0) (.int .i64 0) (.int .i64 0) (.string ⟨#[]⟩) (by omega)
            generalize ((((((wr).setCell ⟨w.heap.size, 0, none⟩ (.int .i64 0)).setCell ⟨w.heap.size, 1, none⟩ (.string ⟨#[]⟩)).setCell ⟨w.heap.size, 2, none⟩ (.slice none 0 0)).setCell ⟨w.heap.size, 3, none⟩ (.int .i64 0)).setCell ⟨w.heap.size, 4, none⟩ (.int .i64 0)).setCell ⟨w.heap.size, 5, none⟩ (.string ⟨#[]⟩) = Wf at hfin hbel hkee ⊢
            have u0 : Wf.cell? ⟨w.heap.size, 0, none⟩ = some (.int .i64 0) := cell_of_block hfin rfl
            have u1 : Wf.cell? ⟨w.heap.size, 1, none⟩ = some (.string ⟨#[]⟩) := cell_of_block hfin rfl
            have u2 : Wf.cell? ⟨w.heap.size, 2, none⟩ = some (.slice none 0 0) := cell_of_block hfin rfl
            have u3 : Wf.cell? ⟨w.heap.size, 3, none⟩ = some (.int .i64 0) := cell_of_block hfin rfl
            have u4 : Wf.cell? ⟨w.heap.size, 4, none⟩ = some (.int .i64 0) := cell_of_block hfin rfl
            have u5 : Wf.cell? ⟨w.heap.size, 5, none⟩ = some (.string ⟨#[]⟩) := cell_of_block hfin rfl
            refine bodyPost_ret (v := .tuple #[.agg #[.int .i64 0, .string ⟨#[]⟩, .slice none 0 0, .int .i64 0, .int .i64 0, .string ⟨#[]⟩], .int .i64 0, .bool false]) (by simp [results, Tryz.results153, go_sem, u0, u1, u2, u3, u4, u5]) rfl ?_
            rw [HF.out]
            exact HdRes.no zeroHd 0 rfl rfl hbel
      · have HF := Lib.hid (HO.out.trans (show _ = none by rw [HE.out, show l.drop p = [] by rw [List.drop_eq_nil_iff]; omega]; rfl))
        have dn : decide (p < l.length) = false := by simpa using hlt2
        have dn' : decide ((l.length : Int) ≤ (p : Int)) = true := by simp; omega
        clear h44
        have z0 : wr.cell? ⟨w.heap.size, 0, none⟩ = some (.int .i64 0) := cell_of_block kz rfl
        have zf0 := frozen_of_block (o := 0) kz
        have z1 : wr.cell? ⟨w.heap.size, 1, none⟩ = some (.string ⟨#[]⟩) := cell_of_block kz rfl
        have zf1 := frozen_of_block (o := 1) kz
        have z2 : wr.cell? ⟨w.heap.size, 2, none⟩ = some (.slice none 0 0) := cell_of_block kz rfl
        have zf2 := frozen_of_block (o := 2) kz
        have z3 : wr.cell? ⟨w.heap.size, 3, none⟩ = some (.int .i64 0) := cell_of_block kz rfl
        have zf3 := frozen_of_block (o := 3) kz
        have z4 : wr.cell? ⟨w.heap.size, 4, none⟩ = some (.int .i64 0) := cell_of_block kz rfl
        have zf4 := frozen_of_block (o := 4) kz
        have z5 : wr.cell? ⟨w.heap.size, 5, none⟩ = some (.string ⟨#[]⟩) := cell_of_block kz rfl
        have zf5 := frozen_of_block (o := 5) kz

        go_wp2_with fail
        have hfin := set6_blk (.int .i64 0) (.string ⟨#[]⟩) (.slice none 0 0) (.int .i64 0) (.int .i64 0) (.string ⟨#[]⟩) kz
        have hbel := set6_below (R := w.heap.size) (.int .i64 0) (.string ⟨#[]⟩) (.slice none 0 0) (.int .i64 0) (.int .i64 0) (.string ⟨#[]⟩) B1 (by omega)
        have hkee := set6_keeps (B := w.heap.size + 1) (R := w.heap.size) wr (.int .i64 0) (.string ⟨#[]⟩) (.slice none 0 0) (.int .i64 0) (.int .i64 0) (.string ⟨#[]⟩) (by omega)
        generalize ((((((wr).setCell ⟨w.heap.size, 0, none⟩ (.int .i64 0)).setCell ⟨w.heap.size, 1, none⟩ (.string ⟨#[]⟩)).setCell ⟨w.heap.size, 2, none⟩ (.slice none 0 0)).setCell ⟨w.heap.size, 3, none⟩ (.int .i64 0)).setCell ⟨w.heap.size, 4, none⟩ (.int .i64 0)).setCell ⟨w.heap.size, 5, none⟩ (.string ⟨#[]⟩) = Wf at hfin hbel hkee ⊢
        have u0 : Wf.cell? ⟨w.heap.size, 0, none⟩ = some (.int .i64 0) := cell_of_block hfin rfl
        have u1 : Wf.cell? ⟨w.heap.size, 1, none⟩ = some (.string ⟨#[]⟩) := cell_of_block hfin rfl
        have u2 : Wf.cell? ⟨w.heap.size, 2, none⟩ = some (.slice none 0 0) := cell_of_block hfin rfl
        have u3 : Wf.cell? ⟨w.heap.size, 3, none⟩ = some (.int .i64 0) := cell_of_block hfin rfl
        have u4 : Wf.cell? ⟨w.heap.size, 4, none⟩ = some (.int .i64 0) := cell_of_block hfin rfl
        have u5 : Wf.cell? ⟨w.heap.size, 5, none⟩ = some (.string ⟨#[]⟩) := cell_of_block hfin rfl
        refine bodyPost_ret (v := .tuple #[.agg #[.int .i64 0, .string ⟨#[]⟩, .slice none 0 0, .int .i64 0, .int .i64 0, .string ⟨#[]⟩], .int .i64 0, .bool false]) (by simp [results, Tryz.results153, go_sem, u0, u1, u2, u3, u4, u5]) rfl ?_
        rw [HF.out]
        exact HdRes.no zeroHd 0 rfl rfl hbel
end Go.Proofs.YtcgedpfolloinaaGreat
