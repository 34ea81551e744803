/- What the proof of PrfTreeOrder rests on, part 11 of 13. -/
import Derived.Test.YtcgedpfolloinaaGreatPPrfTreeOrder10
namespace Go.Proofs.YtcgedpfolloinaaGreat
open Go.RowKit

set_option maxRecDepth 100000 in
set_option maxHeartbeats 2000000 in
theorem sameHead_k (h i : Hd) (aa : Option Addr) (ca : Nat) (ab : Option Addr) (cb : Nat) (w : World) (h1 : h.k ≠ i.k) :
    Calls Tryz.prog 63 #[hdVal h aa ca, hdVal i ab cb] w fun e w' => e = .returned (.bool false) ∧ Below w.heap.size w w' := by
  have b1 : (h.k != i.k) = true := by simpa using h1
  unfold hdVal
  go_enter Tryz.func63, Tryz.ntmps63
  go_wp2_with fail
  go_ret
  exact ⟨rfl, by ((repeat' (first | exact Below.refl _ _ | assumption | refine Below.setCell ?_ ?_ _ | refine bdrewN ?_ _ | refine Below.drew ?_ | refine Below.alloc ?_ ?_ _ | refine bbehind ?_ (by assumption) ?_)); all_goals first | (simp; done) | (simp; omega) | omega)⟩
set_option maxRecDepth 100000 in
set_option maxHeartbeats 2000000 in
theorem sameHead_l (h i : Hd) (aa : Option Addr) (ca : Nat) (ab : Option Addr) (cb : Nat) (w : World) (h1 : h.k = i.k) (h2 : h.l ≠ i.l) :
    Calls Tryz.prog 63 #[hdVal h aa ca, hdVal i ab cb] w fun e w' => e = .returned (.bool false) ∧ Below w.heap.size w w' := by
  have b1 : (h.k != i.k) = false := by simpa using h1
  have b2 : (h.l == i.l) = false := by simpa using h2
  unfold hdVal
  go_enter Tryz.func63, Tryz.ntmps63
  go_wp2_with fail
  go_ret
  exact ⟨rfl, by ((repeat' (first | exact Below.refl _ _ | assumption | refine Below.setCell ?_ ?_ _ | refine bdrewN ?_ _ | refine Below.drew ?_ | refine Below.alloc ?_ ?_ _ | refine bbehind ?_ (by assumption) ?_)); all_goals first | (simp; done) | (simp; omega) | omega)⟩
set_option maxRecDepth 100000 in
set_option maxHeartbeats 2000000 in
theorem sameHead_n (h i : Hd) (aa : Option Addr) (ca : Nat) (ab : Option Addr) (cb : Nat) (w : World) (h1 : h.k = i.k) (h2 : h.l = i.l) (h3 : h.n ≠ i.n) :
    Calls Tryz.prog 63 #[hdVal h aa ca, hdVal i ab cb] w fun e w' => e = .returned (.bool false) ∧ Below w.heap.size w w' := by
  have b1 : (h.k != i.k) = false := by simpa using h1
  have b2 : (h.l == i.l) = true := by simpa using h2
  have b3 : (h.n == i.n) = false := by simpa using h3
  unfold hdVal
  go_enter Tryz.func63, Tryz.ntmps63
  go_wp2_with fail
  go_ret
  exact ⟨rfl, by ((repeat' (first | exact Below.refl _ _ | assumption | refine Below.setCell ?_ ?_ _ | refine bdrewN ?_ _ | refine Below.drew ?_ | refine Below.alloc ?_ ?_ _ | refine bbehind ?_ (by assumption) ?_)); all_goals first | (simp; done) | (simp; omega) | omega)⟩
set_option maxRecDepth 100000 in
set_option maxHeartbeats 2000000 in
theorem sameHead_d (h i : Hd) (aa : Option Addr) (ca : Nat) (ab : Option Addr) (cb : Nat) (w : World) (h1 : h.k = i.k) (h2 : h.l = i.l) (h3 : h.n = i.n) (h4 : h.d ≠ i.d) :
    Calls Tryz.prog 63 #[hdVal h aa ca, hdVal i ab cb] w fun e w' => e = .returned (.bool false) ∧ Below w.heap.size w w' := by
  have b1 : (h.k != i.k) = false := by simpa using h1
  have b2 : (h.l == i.l) = true := by simpa using h2
  have b3 : (h.n == i.n) = true := by simpa using h3
  have b4 : (h.d == i.d) = false := by simpa using h4
  unfold hdVal
  go_enter Tryz.func63, Tryz.ntmps63
  go_wp2_with fail
  go_ret
  exact ⟨rfl, by ((repeat' (first | exact Below.refl _ _ | assumption | refine Below.setCell ?_ ?_ _ | refine bdrewN ?_ _ | refine Below.drew ?_ | refine Below.alloc ?_ ?_ _ | refine bbehind ?_ (by assumption) ?_)); all_goals first | (simp; done) | (simp; omega) | omega)⟩
set_option maxRecDepth 100000 in
set_option maxHeartbeats 2000000 in
theorem sameHead_x (h i : Hd) (aa : Option Addr) (ca : Nat) (ab : Option Addr) (cb : Nat) (w : World) (h1 : h.k = i.k) (h2 : h.l = i.l) (h3 : h.n = i.n) (h4 : h.d = i.d) (h5 : h.x ≠ i.x) :
    Calls Tryz.prog 63 #[hdVal h aa ca, hdVal i ab cb] w fun e w' => e = .returned (.bool false) ∧ Below w.heap.size w w' := by
  have b1 : (h.k != i.k) = false := by simpa using h1
  have b2 : (h.l == i.l) = true := by simpa using h2
  have b3 : (h.n == i.n) = true := by simpa using h3
  have b4 : (h.d == i.d) = true := by simpa using h4
  have b5 : (h.x == i.x) = false := by simpa using h5
  unfold hdVal
  go_enter Tryz.func63, Tryz.ntmps63
  go_wp2_with fail
  go_ret
  exact ⟨rfl, by ((repeat' (first | exact Below.refl _ _ | assumption | refine Below.setCell ?_ ?_ _ | refine bdrewN ?_ _ | refine Below.drew ?_ | refine Below.alloc ?_ ?_ _ | refine bbehind ?_ (by assumption) ?_)); all_goals first | (simp; done) | (simp; omega) | omega)⟩
set_option maxRecDepth 100000 in
set_option maxHeartbeats 2000000 in
theorem sameHead_a (h i : Hd) (aa : Option Addr) (ca : Nat) (ab : Option Addr) (cb : Nat) (w : World) (h1 : h.k = i.k) (h2 : h.l = i.l) (h3 : h.n = i.n) (h4 : h.d = i.d) (h5 : h.x = i.x) (h6 : h.ats.length ≠ i.ats.length) :
    Calls Tryz.prog 63 #[hdVal h aa ca, hdVal i ab cb] w fun e w' => e = .returned (.bool false) ∧ Below w.heap.size w w' := by
  have b1 : (h.k != i.k) = false := by simpa using h1
  have b2 : (h.l == i.l) = true := by simpa using h2
  have b3 : (h.n == i.n) = true := by simpa using h3
  have b4 : (h.d == i.d) = true := by simpa using h4
  have b5 : (h.x == i.x) = true := by simpa using h5
  have b6 : ((h.ats.length : Int) != (i.ats.length : Int)) = true := by simp; omega
  unfold hdVal
  go_enter Tryz.func63, Tryz.ntmps63
  go_wp2_with fail
  go_ret
  exact ⟨rfl, by ((repeat' (first | exact Below.refl _ _ | assumption | refine Below.setCell ?_ ?_ _ | refine bdrewN ?_ _ | refine Below.drew ?_ | refine Below.alloc ?_ ?_ _ | refine bbehind ?_ (by assumption) ?_)); all_goals first | (simp; done) | (simp; omega) | omega)⟩

set_option maxRecDepth 100000 in
set_option maxHeartbeats 4000000 in
theorem sameHead_ats (h : Hd) (ats : List (List UInt8 × List UInt8)) (aa : Option Addr) (ca : Nat) (ab : Option Addr) (cb : Nat) (w : World) (ha : AttrsLie w (.slice aa h.ats.length ca) h.ats) (hb : AttrsLie w (.slice ab ats.length cb) ats)
    (hlen : h.ats.length = ats.length) (hne : h.ats ≠ ats) :
    Calls Tryz.prog 63 #[hdVal h aa ca, hdVal { h with ats := ats } ab cb] w fun e w' => e = .returned (.bool false) ∧ Below w.heap.size w w' := by
  have HA := Lib.hid ha
  have HB := Lib.hid (show AttrsLie w (.slice ab h.ats.length cb) ats by rw [hlen]; exact hb)
  have HLEN := Lib.hid hlen
  have hal : h.ats.length ≤ 4398046510976 := by
    rcases ha with ⟨_, _, _, h0⟩ | ⟨_, _, _, _, _, h0, _⟩
    · rw [h0]; simp
    · exact h0
  have EXT := Lib.hid (show (∀ j, j < h.ats.length → h.ats.getD j ([], []) = ats.getD j ([], [])) → False from fun hj => hne (List.ext_getElem hlen fun j h1 h2 => by
    have := hj j h1
    rw [List.getD_eq_getElem?_getD, List.getD_eq_getElem?_getD, List.getElem?_eq_getElem h1, List.getElem?_eq_getElem h2] at this
    exact this))
  unfold hdVal
  simp only
  rw [← hlen]
  clear ha hb hne hlen
  go_enter Tryz.func63, Tryz.ntmps63
  go_wp2_with fail
  go_loopw [5] (fun i wr => ∃ k : Nat, i = .int .i64 k ∧ k ≤ h.ats.length ∧ (∀ j, j < k → h.ats.getD j ([], []) = ats.getD j ([], [])) ∧ wr.cell? ⟨w.heap.size, 2, none⟩ = some (.slice aa h.ats.length ca) ∧ wr.cell? ⟨w.heap.size + 1, 2, none⟩ = some (.slice ab h.ats.length cb) ∧ w.heap.size + 1 < wr.heap.size ∧ Below w.heap.size w wr) (fun i _ => h.ats.length - (intOf i).toNat)
  case atStart => exact ⟨0, rfl, Nat.zero_le _, fun j hj => absurd hj (by omega), by simp [go_sem], by simp [go_sem], by simp, by ((repeat' (first | exact Below.refl _ _ | assumption | refine Below.setCell ?_ ?_ _ | refine bdrewN ?_ _ | refine Below.drew ?_ | refine Below.alloc ?_ ?_ _ | refine bbehind ?_ (by assumption) ?_)); all_goals first | (simp; done) | (simp; omega) | omega)⟩
  case round =>
    obtain ⟨k, rfl, hk, hj, c1, c2, hsz, hbw⟩ := hrel
    have hz0 : w.heap.size < wr.heap.size := by omega
    have HJ := Lib.hid hj
    clear hj
    by_cases hlt : k < h.ats.length
    · have dk : decide (k < h.ats.length) = true := by simpa using hlt
      obtain ⟨ba, oa, capa, hs, -, -, hba, hca⟩ := attrs_row HA.out (by omega)
      simp only [Value.slice.injEq] at hs
      obtain ⟨rfl, -, rfl⟩ := hs
      obtain ⟨bb, ob, capb, hs, -, -, hbb, hcb⟩ := attrs_row HB.out (by have := HLEN.out; omega)
      simp only [Value.slice.injEq] at hs
      obtain ⟨rfl, -, rfl⟩ := hs
      obtain ⟨q1, q2⟩ := hca k hlt
      obtain ⟨q3, q4⟩ := hcb k (by have := HLEN.out; omega)
      have q1 := (hbw.cell (p := ⟨ba, oa + k * 2, none⟩) hba).trans q1
      have q2 := (hbw.cell (p := ⟨ba, oa + k * 2 + 1, none⟩) hba).trans q2
      have q3 := (hbw.cell (p := ⟨bb, ob + k * 2, none⟩) hbb).trans q3
      have q4 := (hbw.cell (p := ⟨bb, ob + k * 2 + 1, none⟩) hbb).trans q4
      have k1 : ba < wr.heap.size := by omega
      have k2 : bb < wr.heap.size := by omega
      clear hca hcb
      by_cases e1 : (h.ats.getD k ([], [])).1 = (ats.getD k ([], [])).1
      · by_cases e2 : (h.ats.getD k ([], [])).2 = (ats.getD k ([], [])).2
        · have HJ2 := Lib.hid (show ∀ j, j < k + 1 → h.ats.getD j ([], []) = ats.getD j ([], []) from fun j hj => (Nat.lt_or_ge j k).elim (HJ.out j) fun h' => by
            obtain rfl : j = k := by omega
            exact Prod.ext e1 e2)
          rw [← e1] at q3
          rw [← e2] at q4
          clear e1 e2
          generalize (h.ats.getD k ([], [])).1 = nm at *
          generalize (h.ats.getD k ([], [])).2 = vl at *
          go_wp2_with fail
          refine wp_region_quiet_all (fun w' => ∃ x : Lower _, w' = x.val) (by kernel_rfl) (by kernel_rfl) ⟨⟨_, (Below.refl _ _).drew⟩, rfl⟩ ?_
          repeat (go_big_quiet_step (fail))
          refine wpQuiet_nil ?_
          intro w2 hx2
          obtain ⟨x2, hx2⟩ := hx2
          have hb2 := x2.prop
          rw [← hx2] at hb2
          clear hx2 x2
          obtain ⟨hc2, hf2⟩ := bcell hb2
          have hs2 := hb2.size
          try simp at hs2
          try have hz20 : w.heap.size < w2.heap.size := by omega
          try have hz21 : w.heap.size + 1 < w2.heap.size := by omega
          try have hz22 : w.heap.size + 1 + 1 < w2.heap.size := by omega
          try have hz23 : w.heap.size + 1 + 1 + 1 < w2.heap.size := by omega
          try have hz24 : w.heap.size + 1 + 1 + 1 + 1 < w2.heap.size := by omega
          try have hz25 : w.heap.size + 1 + 1 + 1 + 1 + 1 < w2.heap.size := by omega
          try have hy1_2 : w1.heap.size < w2.heap.size := by omega
          go_wp2_with fail
          go_roundw
          case rel => exact ⟨k + 1, by go_num, by omega, HJ2.out, by rw [hc2 _ _ hz0]; exact c1, by rw [hc2 _ _ hsz]; exact c2, by omega, hbw.trans (hb2.mono hbw.size)⟩
          case measure => simp [intOf]; omega
        · rw [← e1] at q3
          have b2 : ((h.ats.getD k ([], [])).2 == (ats.getD k ([], [])).2) = false := by simpa using e2
          clear e1 e2
          generalize (h.ats.getD k ([], [])).1 = nm at *
          generalize (h.ats.getD k ([], [])).2 = vl at *
          generalize (ats.getD k ([], [])).2 = vl' at *
          go_wp2_with fail
          refine wp_region_quiet_all (fun w' => ∃ x : Lower _, w' = x.val) (by kernel_rfl) (by kernel_rfl) ⟨⟨_, (Below.refl _ _).drew⟩, rfl⟩ ?_
          repeat (go_big_quiet_step (fail))
          refine wpQuiet_nil ?_
          intro w2 hx2
          obtain ⟨x2, hx2⟩ := hx2
          have hb2 := x2.prop
          rw [← hx2] at hb2
          clear hx2 x2
          obtain ⟨hc2, hf2⟩ := bcell hb2
          have hs2 := hb2.size
          try simp at hs2
          try have hz20 : w.heap.size < w2.heap.size := by omega
          try have hz21 : w.heap.size + 1 < w2.heap.size := by omega
          try have hz22 : w.heap.size + 1 + 1 < w2.heap.size := by omega
          try have hz23 : w.heap.size + 1 + 1 + 1 < w2.heap.size := by omega
          try have hz24 : w.heap.size + 1 + 1 + 1 + 1 < w2.heap.size := by omega
          try have hz25 : w.heap.size + 1 + 1 + 1 + 1 + 1 < w2.heap.size := by omega
          try have hy1_2 : w1.heap.size < w2.heap.size := by omega
          go_wp2_with fail
          go_ret
          exact ⟨rfl, hbw.trans (hb2.mono hbw.size)⟩
      · have b1 : ((h.ats.getD k ([], [])).1 == (ats.getD k ([], [])).1) = false := by simpa using e1
        clear e1
        generalize (h.ats.getD k ([], [])).1 = nm at *
        generalize (h.ats.getD k ([], [])).2 = vl at *
        generalize (ats.getD k ([], [])).1 = nm' at *
        generalize (ats.getD k ([], [])).2 = vl' at *
        go_wp2_with fail
        refine wp_region_quiet_all (fun w' => ∃ x : Lower _, w' = x.val) (by kernel_rfl) (by kernel_rfl) ⟨⟨_, (Below.refl _ _).drew⟩, rfl⟩ ?_
        repeat (go_big_quiet_step (fail))
        refine wpQuiet_nil ?_
        intro w2 hx2
        obtain ⟨x2, hx2⟩ := hx2
        have hb2 := x2.prop
        rw [← hx2] at hb2
        clear hx2 x2
        obtain ⟨hc2, hf2⟩ := bcell hb2
        have hs2 := hb2.size
        try simp at hs2
        try have hz20 : w.heap.size < w2.heap.size := by omega
        try have hz21 : w.heap.size + 1 < w2.heap.size := by omega
        try have hz22 : w.heap.size + 1 + 1 < w2.heap.size := by omega
        try have hz23 : w.heap.size + 1 + 1 + 1 < w2.heap.size := by omega
        try have hz24 : w.heap.size + 1 + 1 + 1 + 1 < w2.heap.size := by omega
        try have hz25 : w.heap.size + 1 + 1 + 1 + 1 + 1 < w2.heap.size := by omega
        try have hy1_2 : w1.heap.size < w2.heap.size := by omega
        go_wp2_with fail
        go_ret
        exact ⟨rfl, hbw.trans (hb2.mono hbw.size)⟩
    · exact (EXT.out fun j hj => HJ.out j (by omega)).elim
theorem sameHead_ne (h i : Hd) (aa : Option Addr) (ca : Nat) (ab : Option Addr) (cb : Nat) (w : World) (ha : AttrsLie w (.slice aa h.ats.length ca) h.ats) (hb : AttrsLie w (.slice ab i.ats.length cb) i.ats) (hne : h ≠ i) :
    Calls Tryz.prog 63 #[hdVal h aa ca, hdVal i ab cb] w fun e w' => e = .returned (.bool false) ∧ Below w.heap.size w w' := by
  by_cases h1 : h.k = i.k
  · by_cases h2 : h.l = i.l
    · by_cases h3 : h.n = i.n
      · by_cases h4 : h.d = i.d
        · by_cases h5 : h.x = i.x
          · by_cases h6 : h.ats.length = i.ats.length
            · have e : i = { h with ats := i.ats } := by
                obtain ⟨a, b, c, d, e, f⟩ := h
                obtain ⟨a', b', c', d', e', f'⟩ := i
                simp only at h1 h2 h3 h4 h5
                subst h1 h2 h3 h4 h5
                rfl
              have := sameHead_ats h i.ats aa ca ab cb w ha hb h6 (fun e2 => hne (by rw [e, ← e2]))
              rw [← e] at this
              exact this
            · exact sameHead_a h i aa ca ab cb w h1 h2 h3 h4 h5 h6
          · exact sameHead_x h i aa ca ab cb w h1 h2 h3 h4 h5
        · exact sameHead_d h i aa ca ab cb w h1 h2 h3 h4
      · exact sameHead_n h i aa ca ab cb w h1 h2 h3
    · exact sameHead_l h i aa ca ab cb w h1 h2
  · exact sameHead_k h i aa ca ab cb w h1
end Go.Proofs.YtcgedpfolloinaaGreat

namespace Go.Proofs.YtcgedpfolloinaaGreat
open Go.RowKit

noncomputable def dec (p : Prop) : Bool := @decide p (Classical.propDecidable p)
theorem dec_pos {p : Prop} (h : p) : dec p = true := by unfold dec; simpa using h
theorem dec_neg {p : Prop} (h : ¬ p) : dec p = false := by unfold dec; simpa using h
theorem drop_take_eq {f g : Fo} {k : Nat} {h : Hd} {ks r r' : Fo} (e : f.drop k = .cons h ks r) (e' : g.drop k = .cons h ks r') (ht : f.take k = g.take k) : f.take (k + 1) = g.take (k + 1) := by
  rw [Fo.take_succ k f e, Fo.take_succ k g e', ht]
theorem take_full : ∀ (f : Fo) (k : Nat), f.len ≤ k → f.take k = f
  | .nil, k, _ => by cases k <;> rfl
  | .cons h ks r, 0, hk => by simp [Fo.len] at hk
  | .cons h ks r, k + 1, hk => by simp only [Fo.take]; rw [take_full r k (by simp only [Fo.len] at hk; omega)]

set_option maxRecDepth 100000 in
set_option maxHeartbeats 4000000 in
theorem same_len (f g : Fo) (v u : Value) (w : World) (hl : Lies w v f) (hg : Lies w u g) (h : f.len ≠ g.len) :
    Calls Tryz.prog 35 #[v, u] w fun e w' => e = .returned (.bool false) ∧ Below w.heap.size w w' := by
  obtain ⟨a, cap, rfl⟩ := lies_form hl
  obtain ⟨a', cap', rfl⟩ := lies_form hg
  have b1 : ((f.len : Int) != (g.len : Int)) = true := by simp; omega
  clear hl hg
  go_enter Tryz.func35, Tryz.ntmps35
  go_wp2_with fail
  go_ret
  exact ⟨rfl, Below.refl _ _⟩
set_option maxRecDepth 100000 in
set_option maxHeartbeats 4000000 in
theorem same_by (f g : Fo) (v u : Value) (w : World) (hl : Lies w v f) (hg : Lies w u g) (hlen : f.len = g.len)
    (HK : ∀ k h ks, k < f.len → f.drop k = .cons h ks (f.drop (k + 1)) → ∀ ks' v u w, Lies w v ks → Lies w u ks' → Calls Tryz.prog 35 #[v, u] w fun e w' => e = .returned (.bool (dec (ks = ks'))) ∧ Below w.heap.size w w') :
    Calls Tryz.prog 35 #[v, u] w fun e w' => e = .returned (.bool (dec (f = g))) ∧ Below w.heap.size w w' := by
  have HL := Lib.hid hl
  have HG := Lib.hid hg
  have HKK := Lib.hid HK
  have HLEN := Lib.hid hlen
  have hfl := lies_len hl
  obtain ⟨a, cap, rfl⟩ := lies_form hl
  obtain ⟨a', cap', rfl⟩ := lies_form hg
  obtain ⟨B, hB⟩ : ∃ B, dec (f = g) = B := ⟨_, rfl⟩
  have HB := Lib.hid hB
  rw [hB, ← hlen]
  clear hl hg HK hlen hB
  go_enter Tryz.func35, Tryz.ntmps35
  go_wp2_with fail
  go_loopw [5] (fun i wr => ∃ k : Nat, i = .int .i64 k ∧ k ≤ f.len ∧ f.take k = g.take k ∧ Below w.heap.size w wr) (fun i _ => f.len - (intOf i).toNat)
  case atStart => exact ⟨0, rfl, Nat.zero_le _, by cases f <;> cases g <;> rfl, Below.refl _ _⟩
  case round =>
    obtain ⟨k, rfl, hk, htk, hbw⟩ := hrel
    have hsz := hbw.size
    by_cases hlt : k < f.len
    · have dk : decide (k < f.len) = true := by simpa using hlt
      obtain ⟨bf, of, cp, hs, -, -, hbf, hrow⟩ := lies_row HL.out (by omega)
      simp only [Value.slice.injEq] at hs
      obtain ⟨rfl, -, rfl⟩ := hs
      obtain ⟨bg, og, cp', hs, -, -, hbg, hrow'⟩ := lies_row HG.out (by have := HLEN.out; omega)
      simp only [Value.slice.injEq] at hs
      obtain ⟨rfl, -, rfl⟩ := hs
      obtain ⟨hd, ks, e, ⟨qa0, qa1, ⟨va, qa2, ha⟩, qa3, qa4, qa5⟩, vk, qa6, hlk⟩ := row_get hrow hlt
      obtain ⟨hd', ks', e', ⟨qb0, qb1, ⟨vb, qb2, hb⟩, qb3, qb4, qb5⟩, vl, qb6, hlk'⟩ := row_get hrow' (show k < g.len by have := HLEN.out; omega)
      obtain ⟨aa, ca, rfl⟩ := attrs_form ha
      obtain ⟨ab, cb, rfl⟩ := attrs_form hb
      obtain ⟨ak, ck, rfl⟩ := lies_form hlk
      obtain ⟨al, cl, rfl⟩ := lies_form hlk'
      have ra0 := (hbw.cell (p := ⟨bf, of + k * 7, none⟩) hbf).trans qa0
      have ra1 := (hbw.cell (p := ⟨bf, of + k * 7 + 1, none⟩) hbf).trans qa1
      have ra2 := (hbw.cell (p := ⟨bf, of + k * 7 + 2, none⟩) hbf).trans qa2
      have ra3 := (hbw.cell (p := ⟨bf, of + k * 7 + 3, none⟩) hbf).trans qa3
      have ra4 := (hbw.cell (p := ⟨bf, of + k * 7 + 4, none⟩) hbf).trans qa4
      have ra5 := (hbw.cell (p := ⟨bf, of + k * 7 + 5, none⟩) hbf).trans qa5
      have ra6 := (hbw.cell (p := ⟨bf, of + k * 7 + 6, none⟩) hbf).trans qa6
      have rb0 := (hbw.cell (p := ⟨bg, og + k * 7, none⟩) hbg).trans qb0
      have rb1 := (hbw.cell (p := ⟨bg, og + k * 7 + 1, none⟩) hbg).trans qb1
      have rb2 := (hbw.cell (p := ⟨bg, og + k * 7 + 2, none⟩) hbg).trans qb2
      have rb3 := (hbw.cell (p := ⟨bg, og + k * 7 + 3, none⟩) hbg).trans qb3
      have rb4 := (hbw.cell (p := ⟨bg, og + k * 7 + 4, none⟩) hbg).trans qb4
      have rb5 := (hbw.cell (p := ⟨bg, og + k * 7 + 5, none⟩) hbg).trans qb5
      have rb6 := (hbw.cell (p := ⟨bg, og + k * 7 + 6, none⟩) hbg).trans qb6
      have k1 : bf < wr.heap.size := by omega
      have k2 : bg < wr.heap.size := by omega
      by_cases hh : hd = hd'
      · subst hh
        have SH := Lib.hid (fun (x : Lower wr) => calls_lower x (sameHead_refl hd aa ca ab cb x.val (attrs_below (attrs_below ha hbw) x.prop) (attrs_below (attrs_below hb hbw) x.prop)))
        have SK := Lib.hid (fun (x : Lower wr) => calls_lower x (HKK.out k hd ks hlt e ks' _ _ x.val (lies_below (lies_below hlk hbw) x.prop) (lies_below (lies_below hlk' hbw) x.prop)))
        unfold hdVal at SH
        by_cases hks : ks = ks'
        · subst hks
          have HT := Lib.hid (drop_take_eq e e' htk)
          rw [dec_pos rfl] at SK
          clear e e' htk
          clear hrow hrow' ha hb hlk hlk' qa0 qa1 qa2 qa3 qa4 qa5 qa6 qb0 qb1 qb2 qb3 qb4 qb5 qb6
          go_wp2_with fail
          refine wp_region_quiet_all (fun w' => ∃ x : Lower _, w' = x.val) (by kernel_rfl) (by kernel_rfl) ⟨⟨_, (Below.refl _ _).drew⟩, rfl⟩ ?_
          repeat (go_big_quiet_step (first | (go_at_call 63; exact SH.out _) | (go_at_call 35; exact SK.out _)))
          refine wpQuiet_nil ?_
          intro w2 hx2
          obtain ⟨x2, hx2⟩ := hx2
          have hb2 := x2.prop
          rw [← hx2] at hb2
          clear hx2 x2
          obtain ⟨hc2, hf2⟩ := bcell hb2
          have hs2 := hb2.size
          try simp at hs2
          try have hz20 : w.heap.size < w2.heap.size := by omega
          try have hz21 : w.heap.size + 1 < w2.heap.size := by omega
          try have hz22 : w.heap.size + 1 + 1 < w2.heap.size := by omega
          try have hz23 : w.heap.size + 1 + 1 + 1 < w2.heap.size := by omega
          try have hz24 : w.heap.size + 1 + 1 + 1 + 1 < w2.heap.size := by omega
          try have hz25 : w.heap.size + 1 + 1 + 1 + 1 + 1 < w2.heap.size := by omega
          try have hy1_2 : w1.heap.size < w2.heap.size := by omega
          go_wp2_with fail
          go_roundw
          case rel => exact ⟨k + 1, by go_num, by omega, HT.out, hbw.trans (hb2.mono hbw.size)⟩
          case measure => simp [intOf]; omega
        · have HN := Lib.hid (HB.out.symm.trans (dec_neg fun e2 => hks (by
            rw [e2, e'] at e
            exact ((Fo.cons.inj e).2.1).symm)))
          rw [dec_neg hks] at SK
          clear e e' htk hks
          clear hrow hrow' ha hb hlk hlk' qa0 qa1 qa2 qa3 qa4 qa5 qa6 qb0 qb1 qb2 qb3 qb4 qb5 qb6
          go_wp2_with fail
          refine wp_region_quiet_all (fun w' => ∃ x : Lower _, w' = x.val) (by kernel_rfl) (by kernel_rfl) ⟨⟨_, (Below.refl _ _).drew⟩, rfl⟩ ?_
          repeat (go_big_quiet_step (first | (go_at_call 63; exact SH.out _) | (go_at_call 35; exact SK.out _)))
          refine wpQuiet_nil ?_
          intro w2 hx2
          obtain ⟨x2, hx2⟩ := hx2
          have hb2 := x2.prop
          rw [← hx2] at hb2
          clear hx2 x2
          obtain ⟨hc2, hf2⟩ := bcell hb2
          have hs2 := hb2.size
          try simp at hs2
          try have hz20 : w.heap.size < w2.heap.size := by omega
          try have hz21 : w.heap.size + 1 < w2.heap.size := by omega
          try have hz22 : w.heap.size + 1 + 1 < w2.heap.size := by omega
          try have hz23 : w.heap.size + 1 + 1 + 1 < w2.heap.size := by omega
          try have hz24 : w.heap.size + 1 + 1 + 1 + 1 < w2.heap.size := by omega
          try have hz25 : w.heap.size + 1 + 1 + 1 + 1 + 1 < w2.heap.size := by omega
          try have hy1_2 : w1.heap.size < w2.heap.size := by omega
          go_wp2_with fail
          go_ret
          exact ⟨by rw [HN.out] <;> rfl, hbw.trans (hb2.mono hbw.size)⟩
      · have SH := Lib.hid (fun (x : Lower wr) => calls_lower x (sameHead_ne hd hd' aa ca ab cb x.val (attrs_below (attrs_below ha hbw) x.prop) (attrs_below (attrs_below hb hbw) x.prop) hh))
        unfold hdVal at SH
        have HN := Lib.hid (HB.out.symm.trans (dec_neg fun e2 => hh (by
          rw [e2, e'] at e
          exact ((Fo.cons.inj e).1).symm)))
        clear e e' htk hh
        clear hrow hrow' ha hb hlk hlk' qa0 qa1 qa2 qa3 qa4 qa5 qa6 qb0 qb1 qb2 qb3 qb4 qb5 qb6
        go_wp2_with fail
        refine wp_region_quiet_all (fun w' => ∃ x : Lower _, w' = x.val) (by kernel_rfl) (by kernel_rfl) ⟨⟨_, (Below.refl _ _).drew⟩, rfl⟩ ?_
        repeat (go_big_quiet_step ((go_at_call 63; exact SH.out _)))
        refine wpQuiet_nil ?_
        intro w2 hx2
        obtain ⟨x2, hx2⟩ := hx2
        have hb2 := x2.prop
        rw [← hx2] at hb2
        clear hx2 x2
        obtain ⟨hc2, hf2⟩ := bcell hb2
        have hs2 := hb2.size
        try simp at hs2
        try have hz20 : w.heap.size < w2.heap.size := by omega
        try have hz21 : w.heap.size + 1 < w2.heap.size := by omega
        try have hz22 : w.heap.size + 1 + 1 < w2.heap.size := by omega
        try have hz23 : w.heap.size + 1 + 1 + 1 < w2.heap.size := by omega
        try have hz24 : w.heap.size + 1 + 1 + 1 + 1 < w2.heap.size := by omega
        try have hz25 : w.heap.size + 1 + 1 + 1 + 1 + 1 < w2.heap.size := by omega
        try have hy1_2 : w1.heap.size < w2.heap.size := by omega
        go_wp2_with fail
        go_ret
        exact ⟨by rw [HN.out] <;> rfl, hbw.trans (hb2.mono hbw.size)⟩
    · have dk : decide (k < f.len) = false := by simpa using hlt
      have HN := Lib.hid (HB.out.symm.trans (dec_pos (by
        have h1 := take_full f k (by omega)
        have h2 := take_full g k (by have := HLEN.out; omega)
        rw [h1, h2] at htk
        exact htk)))
      clear htk
      go_wp2_with fail
      go_ret
      exact ⟨by rw [HN.out] <;> rfl, hbw⟩
theorem same_any : ∀ (N : Nat) (f g : Fo), f.size ≤ N → ∀ (v u : Value) (w : World), Lies w v f → Lies w u g → Calls Tryz.prog 35 #[v, u] w fun e w' => e = .returned (.bool (dec (f = g))) ∧ Below w.heap.size w w' := by
  intro N
  induction N with
  | zero =>
    intro f g hf v u w hl hg
    by_cases hlen : f.len = g.len
    · exact same_by f g v u w hl hg hlen (fun k h ks hk => by have := Fo.len_le_size f; omega)
    · rw [dec_neg fun e => hlen (by rw [e])]
      exact same_len f g v u w hl hg hlen
  | succ N ih =>
    intro f g hf v u w hl hg
    by_cases hlen : f.len = g.len
    · refine same_by f g v u w hl hg hlen (fun k h ks hk e ks' v u w hl hg => ih ks ks' ?_ v u w hl hg)
      have := Fo.size_app (f.take k) (f.drop k)
      rw [Fo.take_app_drop, e] at this
      simp only [Fo.size] at this
      omega
    · rw [dec_neg fun e => hlen (by rw [e])]
      exact same_len f g v u w hl hg hlen
end Go.Proofs.YtcgedpfolloinaaGreat

namespace Go.Proofs.YtcgedpfolloinaaGreat
open Go.RowKit

def fitB (f : Fo) : Bool := !great f && decide (foErr f = 0)
set_option maxRecDepth 100000 in
set_option maxHeartbeats 1000000 in
theorem fit_any (f : Fo) (v : Value) (w : World) (hl : Lies w v f) : Calls Tryz.prog 60 #[v] w fun e w' => e = .returned (.bool (fitB f)) ∧ Below w.heap.size w w' := by
  have GF := Lib.hid (great_any f.size f v w (Nat.le_refl _) hl)
  cases hg : great f with
  | true =>
    rw [hg] at GF
    have HX := Lib.hid (show fitB f = false by unfold fitB; rw [hg]; rfl)
    rw [HX.out]
    clear hl
    go_enter Tryz.func60, Tryz.ntmps60
    go_wp2_with fail
    refine GF.out.mono ?_
    rintro e w1 ⟨rfl, hb1⟩
    go_wp2_with fail
    go_ret
    exact ⟨rfl, hb1⟩
  | false =>
    rw [hg] at GF
    have QF := Lib.hid (fun w1 (hw : Below w.heap.size w w1) => qcheck_any f v w1 (lies_below hl hw) (small_lies hl hg))
    by_cases h0 : foErr f = 0
    · have HX := Lib.hid (show fitB f = true by unfold fitB; rw [hg, h0]; rfl)
      rw [HX.out]
      rw [h0] at QF
      clear hl h0
      go_enter Tryz.func60, Tryz.ntmps60
      go_wp2_with fail
      refine GF.out.mono ?_
      rintro e w1 ⟨rfl, hb1⟩
      go_wp2_with fail
      refine (QF.out _ hb1).mono ?_
      rintro e w2 ⟨rfl, hb2⟩
      go_wp2_with fail
      go_ret
      exact ⟨rfl, hb1.trans (hb2.mono hb1.size)⟩
    · have HX := Lib.hid (show fitB f = false by unfold fitB; rw [hg]; simp [h0])
      rw [HX.out]
      generalize foErr f = E at *
      have b0 : (E == 0) = false := by simpa using h0
      clear hl h0
      go_enter Tryz.func60, Tryz.ntmps60
      go_wp2_with fail
      refine GF.out.mono ?_
      rintro e w1 ⟨rfl, hb1⟩
      go_wp2_with fail
      refine (QF.out _ hb1).mono ?_
      rintro e w2 ⟨rfl, hb2⟩
      go_wp2_with fail
      go_ret
      exact ⟨rfl, hb1.trans (hb2.mono hb1.size)⟩
theorem fit_parts {f : Fo} (h : fitB f = true) : great f = false ∧ foErr f = 0 := by
  unfold fitB at h
  simpa using h
end Go.Proofs.YtcgedpfolloinaaGreat
