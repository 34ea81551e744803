/- Slices of integers: where they lie, one among the arguments, and how two are compared. -/
import Derived.Test.YtgefidffhdanhaaRefA
import Derived.OpenShut
import Derived.ProofKit
import Derived.ChangeOld
import Derived.Deep.SlicePairs
namespace Go.Proofs.Ytgefidffhdanhaa
open Go.ChangeShapes Go.WideShapes Go.ChangeAt Go.RowKit Go.BigFrame

/-- where a list of integers lies: an empty one wherever, another one in cells. -/
def IntsLie (w : World) (v : Value) (l : List Int) : Prop :=
  (∃ a cap, v = .slice a 0 cap ∧ l = []) ∨ ∃ b off cap, v = .slice (some ⟨b, off, none⟩) l.length cap ∧ l.length ≤ cap ∧ b < w.heap.size ∧ ∀ k, k < l.length → w.cell? ⟨b, off + k, none⟩ = some (.int .i64 (l.getD k 0))

theorem ints_below {w w' : World} {v : Value} {l : List Int} (h : IntsLie w v l) (k : Below w.heap.size w w') : IntsLie w' v l := by
  rcases h with h | ⟨b, off, cap, h1, h0, h2, h3⟩
  · exact .inl h
  · obtain ⟨hc, _⟩ := bcell k
    exact .inr ⟨b, off, cap, h1, h0, Nat.lt_of_lt_of_le h2 k.size, fun i hi => (hc _ _ h2).trans (h3 i hi)⟩
theorem ints_form {w : World} {v : Value} {l : List Int} (h : IntsLie w v l) : ∃ a cap, v = .slice a l.length cap := by
  rcases h with ⟨a, cap, rfl, rfl⟩ | ⟨b, off, cap, rfl, _⟩
  · exact ⟨a, cap, rfl⟩
  · exact ⟨_, cap, rfl⟩
theorem ints_cells {w : World} {v : Value} {l : List Int} (h : IntsLie w v l) (hl : ¬ l = []) : ∃ b off cap, v = .slice (some ⟨b, off, none⟩) l.length cap ∧ l.length ≤ cap ∧ b < w.heap.size ∧ ∀ k, k < l.length → w.cell? ⟨b, off + k, none⟩ = some (.int .i64 (l.getD k 0)) := by
  rcases h with ⟨a, cap, rfl, rfl⟩ | h
  · exact absurd rfl hl
  · exact h

theorem ilt_of_cell {w : World} {b o : Nat} {v : Value} (h : w.cell? ⟨b, o, none⟩ = some v) : b < w.heap.size := by
  by_cases hb : b < w.heap.size
  · exact hb
  · exfalso
    have : w.heap[b]? = none := Array.getElem?_eq_none (by omega)
    unfold World.cell? at h
    simp [this] at h

set_option maxRecDepth 100000 in
theorem ints_of {H : Type} {enc : TypeId × Value → H} {W : World} {base : Nat} {v : Value} {d : DataW H} {p : List MemPlace} (hv : Value.okWide Try.prog W .any base 44 v) (h : DataW.Trod enc Try.prog W 0 (fun _ => true) true 44 v d p) :
    ∃ a len cap, v = .slice a len cap ∧ ∃ l : List Int, l.length = len ∧ IntsLie W (.slice a len cap) l := by
  obtain ⟨a0, len, cap, rfl⟩ := okWide_slice Try.underlying44 hv
  obtain ⟨fuel, hf⟩ := h
  have hC : Try.prog.cellsOf 3 = 1 := by kernel_rfl
  rcases open_ints Try.underlying44 Try.underlying3 hC hf with ⟨hcs, hx⟩ | ⟨a, len', cap', zs, hcs, _, hle, hmax, hzs, hx, hcell, hwf⟩
  · simp [Value.cells] at hcs
    obtain ⟨rfl, rfl, rfl⟩ := hcs
    exact ⟨_, _, _, rfl, [], rfl, .inl ⟨_, _, rfl, rfl⟩⟩
  · simp [Value.cells] at hcs
    obtain ⟨rfl, rfl, rfl⟩ := hcs
    refine ⟨_, _, _, rfl, ?_⟩
    simp only [if_true] at hzs
    by_cases h0 : len = 0
    · subst h0; exact ⟨[], rfl, .inl ⟨_, _, rfl, rfl⟩⟩
    · obtain ⟨b, off, rfl, hc⟩ := ints_at hcell (by omega)
      refine ⟨zs.take len, by simp; omega, .inr ⟨b, off, cap, by simp; omega, by simp; omega, ilt_of_cell (hc 0 (by omega)), fun k hk => ?_⟩⟩
      have hk' : k < len := by simp at hk; omega
      rw [hc k (by omega)]
      congr 2
      rw [List.getD_eq_getElem?_getD, List.getD_eq_getElem?_getD, List.getElem?_take, if_pos hk']

def alikeB (l m : List Int) : Bool := decide (l = m)
theorem take_eq_next {l m : List Int} {k : Nat} (hl : k < l.length) (hm : k < m.length) (h : l.take k = m.take k) (e : l.getD k 0 = m.getD k 0) : l.take (k + 1) = m.take (k + 1) := by
  rw [List.take_succ_eq_append_getElem hl, List.take_succ_eq_append_getElem hm, h]
  rw [List.getD_eq_getElem?_getD, List.getD_eq_getElem?_getD, List.getElem?_eq_getElem hl, List.getElem?_eq_getElem hm] at e
  simp only [Option.getD_some] at e
  rw [e]

set_option maxRecDepth 100000 in
set_option maxHeartbeats 1000000 in
theorem alike_any (v u : Value) (l m : List Int) (w : World) (h1 : IntsLie w v l) (h2 : IntsLie w u m) (hl : l.length ≤ 1000000) (hm : m.length ≤ 1000000) :
    Calls Try.prog 55 #[v, u] w fun e w' => e = .returned (.bool (alikeB l m)) ∧ Below w.heap.size w w' := by
  by_cases hlen : l.length = m.length
  · by_cases h0 : l = []
    · subst h0
      obtain rfl : m = [] := by cases m with | nil => rfl | cons a t => simp at hlen
      obtain ⟨a1, c1, rfl⟩ := ints_form h1
      obtain ⟨a2, c2, rfl⟩ := ints_form h2
      clear h1 h2
      go_enter Try.func55, Try.ntmps55
      go_wp2
      go_loopw [5] (fun i wr => i = .int .i64 0 ∧ Below w.heap.size w wr) (fun i _ => 0)
      case atStart => exact ⟨rfl, Below.refl _ _⟩
      case round =>
        obtain ⟨rfl, hbw⟩ := hrel
        go_wp2
        go_ret
        exact ⟨rfl, hbw⟩
    · have h0' : ¬ m = [] := by rintro rfl; exact h0 (by cases l with | nil => rfl | cons a t => simp at hlen)
      obtain ⟨b, off, c1, rfl, _, hb, hc⟩ := ints_cells h1 h0
      obtain ⟨b', off', c2, rfl, _, hb', hc'⟩ := ints_cells h2 h0'
      have HC := Lib.hid hc; have HC' := Lib.hid hc'; clear hc hc' h1 h2
      have HL := Lib.hid hlen
      go_enter Try.func55, Try.ntmps55
      go_wp2
      go_loopw [5] (fun i wr => ∃ k : Nat, i = .int .i64 k ∧ k ≤ l.length ∧ l.take k = m.take k ∧ Below w.heap.size w wr) (fun i _ => l.length - (intOf i).toNat)
      case atStart => exact ⟨0, rfl, Nat.zero_le _, by simp, Below.refl _ _⟩
      case round =>
        obtain ⟨k, rfl, hk, ht, hbw⟩ := hrel
        have HT := Lib.hid ht; clear ht
        by_cases hlt : k < l.length
        · have hlt' : k < m.length := by have := HL.out; omega
          have d1 : wr.cell? ⟨b, off + k, none⟩ = some (.int .i64 (l.getD k 0)) := by rw [hbw.cell (p := ⟨b, _, none⟩) hb]; exact HC.out k hlt
          have d2 : wr.cell? ⟨b', off' + k, none⟩ = some (.int .i64 (m.getD k 0)) := by rw [hbw.cell (p := ⟨b', _, none⟩) hb']; exact HC'.out k hlt'
          have hsz := hbw.size
          have HN := Lib.hid (take_eq_next hlt hlt' HT.out)
          have HD := Lib.hid (show l = m → l.getD k 0 = m.getD k 0 from fun h => by rw [h])
          have k1 : b < wr.heap.size := by omega
          have k2 : b' < wr.heap.size := by omega
          generalize l.getD k 0 = x at *
          generalize m.getD k 0 = y at *
          by_cases hx : x = y
          · have HX := Lib.hid hx
            have hx' : (x != y) = false := by simp [hx]
            clear hx
            go_wp2
            refine wp_region_quiet_all (fun w' => ∃ x : Lower _, w' = x.val) (by kernel_rfl) (by kernel_rfl) ⟨⟨_, (Below.refl _ _).drew⟩, rfl⟩ ?_
            repeat (go_big_quiet_step (fail))
            refine wpQuiet_nil ?_
            intro w1 hx1
            obtain ⟨x1, hx1⟩ := hx1
            have hb1 := x1.prop
            rw [← hx1] at hb1
            clear hx1 x1
            obtain ⟨hc1, hf1⟩ := bcell hb1
            have hs1 := hb1.size
            try simp at hs1
            try have hz10 : w.heap.size < w1.heap.size := by omega
            try have hz11 : w.heap.size + 1 < w1.heap.size := by omega
            try have hz12 : w.heap.size + 1 + 1 < w1.heap.size := by omega
            try have hz13 : w.heap.size + 1 + 1 + 1 < w1.heap.size := by omega
            try have hz14 : w.heap.size + 1 + 1 + 1 + 1 < w1.heap.size := by omega
            try have hz15 : w.heap.size + 1 + 1 + 1 + 1 + 1 < w1.heap.size := by omega
            go_wp2
            go_roundw
            case rel => exact ⟨k + 1, by go_num, by omega, HN.out HX.out, by ((repeat' (first | exact Below.refl _ _ | assumption | refine Below.setCell ?_ ?_ _ | refine bdrewN ?_ _ | refine Below.drew ?_ | refine Below.alloc ?_ ?_ _ | refine bbehind ?_ (by assumption) ?_)); all_goals first | (simp; done) | (simp; omega) | omega)⟩
            case measure => simp [intOf]; omega
          · have HX := Lib.hid (show alikeB l m = false from decide_eq_false (fun h => hx (HD.out h)))
            have hx' : (x != y) = true := by simpa using hx
            clear hx
            go_wp2
            refine wp_region_quiet_all (fun w' => ∃ x : Lower _, w' = x.val) (by kernel_rfl) (by kernel_rfl) ⟨⟨_, (Below.refl _ _).drew⟩, rfl⟩ ?_
            repeat (go_big_quiet_step (fail))
            refine wpQuiet_nil ?_
            intro w1 hx1
            obtain ⟨x1, hx1⟩ := hx1
            have hb1 := x1.prop
            rw [← hx1] at hb1
            clear hx1 x1
            obtain ⟨hc1, hf1⟩ := bcell hb1
            have hs1 := hb1.size
            try simp at hs1
            try have hz10 : w.heap.size < w1.heap.size := by omega
            try have hz11 : w.heap.size + 1 < w1.heap.size := by omega
            try have hz12 : w.heap.size + 1 + 1 < w1.heap.size := by omega
            try have hz13 : w.heap.size + 1 + 1 + 1 < w1.heap.size := by omega
            try have hz14 : w.heap.size + 1 + 1 + 1 + 1 < w1.heap.size := by omega
            try have hz15 : w.heap.size + 1 + 1 + 1 + 1 + 1 < w1.heap.size := by omega
            go_wp2
            go_ret
            exact ⟨by rw [HX.out]; rfl, by ((repeat' (first | exact Below.refl _ _ | assumption | refine Below.setCell ?_ ?_ _ | refine bdrewN ?_ _ | refine Below.drew ?_ | refine Below.alloc ?_ ?_ _ | refine bbehind ?_ (by assumption) ?_)); all_goals first | (simp; done) | (simp; omega) | omega)⟩
        · have HE := Lib.hid (show alikeB l m = true from decide_eq_true (by
            have e := HT.out
            have := HL.out
            rw [List.take_of_length_le (by omega), List.take_of_length_le (by omega)] at e
            exact e))
          go_wp2
          go_ret
          exact ⟨by rw [HE.out]; rfl, hbw⟩
  · obtain ⟨a1, c1, rfl⟩ := ints_form h1
    obtain ⟨a2, c2, rfl⟩ := ints_form h2
    have HE := Lib.hid (show alikeB l m = false from decide_eq_false (fun h => hlen (by rw [h])))
    have hlen' : (((l.length : Int)) != (m.length : Int)) = true := by simp; omega
    clear h1 h2 hlen
    go_enter Try.func55, Try.ntmps55
    go_wp2
    go_ret
    exact ⟨by rw [HE.out]; rfl, Below.refl _ _⟩
end Go.Proofs.Ytgefidffhdanhaa
