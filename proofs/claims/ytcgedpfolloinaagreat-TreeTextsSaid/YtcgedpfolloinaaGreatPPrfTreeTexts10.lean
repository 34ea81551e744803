/- What the proof of PrfTreeTexts rests on, part 10 of 13. -/
import Derived.Deep.RegionWith
import Derived.Maps.AppendAt
import Derived.Test.YtcgedpfolloinaaGreatPPrfTreeTexts9
namespace Go.Proofs.YtcgedpfolloinaaGreat
open Go.RowKit

theorem ext_mid (l : List UInt8) (k n : Nat) : (⟨l.toArray⟩ : ByteArray).extract k (k + n) = ⟨((l.drop k).take n).toArray⟩ := by
  apply ByteArray.ext
  rw [ByteArray.data_extract]
  show l.toArray.extract k (k + n) = ((l.drop k).take n).toArray
  rw [List.extract_toArray, List.extract_eq_take_drop, show k + n - k = n by omega]

/-- what Numeral gives, but for the number itself where there is none. -/
def NumRes (w : World) (l : List UInt8) (k : Nat) (e : Ending) (w' : World) : Prop :=
  ∃ n d, e = .returned (.tuple #[.agg #[.int .i64 n, .int .i64 d], .int .i64 ((k + numLen (l.drop k) : Nat) : Int), .bool (figP (l.drop k)).isSome]) ∧ (∀ x y r, figP (l.drop k) = some ((x, y), r) → n = x ∧ d = y) ∧ Below w.heap.size w w'

set_option linter.unusedSimpArgs false in
set_option maxRecDepth 100000 in
set_option maxHeartbeats 8000000 in
theorem numeral_of (l : List UInt8) (k m : Nat) (x y z : Int) (B : Bool) (w : World) (hm : k + m ≤ l.length) (hl : l.length ≤ 90000)
    (hml : ∀ n, (∀ j, j < n → numB (l.getD (k + j) 0) = true) → k + n ≤ l.length → (∀ h : k + n < l.length, numB l[k + n] = false) → n = m)
    (PA : ∀ w, Calls Tryz.prog 180 #[.string ⟨((l.drop k).take m).toArray⟩] w fun e w' => e = .returned (.tuple #[.agg #[.int .i64 x, .int .i64 y], .int .i64 z]) ∧ Below w.heap.size w w')
    (hz : (z = 0 ∧ B = true ∧ ∀ w, Calls Tryz.prog 157 #[.agg #[.int .i64 x, .int .i64 y]] w fun e w' => e = .returned (.string ⟨((l.drop k).take m).toArray⟩) ∧ Below w.heap.size w w') ∨ (z ≠ 0 ∧ B = false)) :
    Calls Tryz.prog 168 #[.string ⟨l.toArray⟩, .int .i64 k] w fun e w' => e = .returned (.tuple #[.agg #[.int .i64 x, .int .i64 y], .int .i64 ((k + m : Nat) : Int), .bool B]) ∧ Below w.heap.size w w' := by
  have HM := Lib.hid hml
  have HPA := Lib.hid PA
  have HZ := Lib.hid hz
  have HX := Lib.hid (ext_mid l k m)
  clear hml PA hz
  go_enter Tryz.func168, Tryz.ntmps168
  go_wp2_with fail
  go_loopw [7] (fun i wr => ∃ n : Nat, k + n ≤ l.length ∧ i = .int .i64 ((k + n : Nat) : Int) ∧ (∀ j, j < n → numB (l.getD (k + j) 0) = true) ∧ wr.heap[w.heap.size]? = some (.cells #[.int .i64 0, .int .i64 0] 25 (0, 0)) ∧ Below w.heap.size w wr) (fun i _ => l.length - (intOf i).toNat)
  case atStart => exact ⟨0, by omega, by simp, fun j hj => absurd hj (by omega), World.alloc_heap_new _ _, by ((repeat' (first | exact Below.refl _ _ | assumption | refine Below.setCell ?_ ?_ _ | refine bdrewN ?_ _ | refine Below.drew ?_ | refine Below.alloc ?_ ?_ _ | refine bbehind ?_ (by assumption) ?_)); all_goals first | (simp; done) | (simp; omega) | omega)⟩
  case round =>
    obtain ⟨n, hn, rfl, hj, hk, hbw⟩ := hrel
    have HJ := Lib.hid hj
    have HK := Lib.hid hk
    have HB := Lib.hid hbw
    clear hj hk hbw
    have fin : ∀ _ : (∀ h : k + n < l.length, numB l[k + n] = false), n = m := fun h => HM.out n HJ.out hn h
    by_cases hlt : k + n < l.length
    · have dn : decide (k + n < l.length) = true := by simpa using hlt
      obtain ⟨c, hc⟩ : ∃ c, l[k + n] = c := ⟨_, rfl⟩
      have HG := Lib.hid (getD_at (d := 0) hlt hc)
      have D := Lib.hid (qdigit_any c)
      have NX := Lib.hid (show numB c = true → ∀ j, j < n + 1 → numB (l.getD (k + j) 0) = true from fun h j hj => (Nat.lt_or_ge j n).elim (HJ.out j) fun h' => by rw [show j = n by omega, HG.out]; exact h)
      have FN := Lib.hid (show numB c = false → n = m from fun h => fin (fun _ => by rw [hc]; exact h))
      clear fin
      cases h1 : digitB c with
      | true =>
        rw [h1] at D
        have HJ2 := Lib.hid (NX.out (by simp only [digitB, decide_eq_true_eq] at h1; simp [numB]; omega))
        clear h1
        go_wp2_with fail
        refine (D.out _).mono ?_; rintro e w' ⟨rfl, rfl⟩
        go_wp2_with fail
        go_roundw
        case rel => exact ⟨n + 1, by omega, by simp; omega, HJ2.out, HK.out, HB.out⟩
        case measure => simp [intOf]; omega
      | false =>
        rw [h1] at D
        simp only [digitB, decide_eq_false_iff_not] at h1
        by_cases h2 : c.toNat = 45
        · have HJ2 := Lib.hid (NX.out (by simp [numB]; omega))
          have b2 : ((c.toNat : Int) == 45) = true := by simp; omega
          have b2' : (c.toNat == 45) = true := by simpa using h2
          clear h1 h2
          go_wp2_with fail
          refine (D.out _).mono ?_; rintro e w' ⟨rfl, rfl⟩
          go_wp2_with fail
          go_roundw
          case rel => exact ⟨n + 1, by omega, by simp; omega, HJ2.out, HK.out, HB.out⟩
          case measure => simp [intOf]; omega
        · have b2 : ((c.toNat : Int) == 45) = false := by simp; omega
          have b2' : (c.toNat == 45) = false := by simpa using h2
          by_cases h3 : c.toNat = 47
          · have HJ2 := Lib.hid (NX.out (by simp [numB]; omega))
            have b3 : ((c.toNat : Int) == 47) = true := by simp; omega
            have b3' : (c.toNat == 47) = true := by simpa using h3
            clear h1 h2 h3
            go_wp2_with fail
            refine (D.out _).mono ?_; rintro e w' ⟨rfl, rfl⟩
            go_wp2_with fail
            go_roundw
            case rel => exact ⟨n + 1, by omega, by simp; omega, HJ2.out, HK.out, HB.out⟩
            case measure => simp [intOf]; omega
          · have b3 : ((c.toNat : Int) == 47) = false := by simp; omega
            have b3' : (c.toNat == 47) = false := by simpa using h3
            have HN := Lib.hid (FN.out (by simp [numB]; omega))
            clear h1 h2 h3
            go_wp2_with fail
            refine (D.out _).mono ?_; rintro e w' ⟨rfl, rfl⟩
            go_wp2_with fail
            obtain rfl := HN.out
            rw [HX.out]
            refine (HPA.out _).mono ?_
            rintro e w1 ⟨rfl, hb1⟩
            have hs1 := hb1.size
            have hsb := HB.out.size
            have hlt0 := (Array.getElem?_eq_some_iff.1 HK.out).1
            have k1 := (hb1.block _ hlt0).trans HK.out
            have B1 := Lib.hid (HB.out.trans (hb1.mono hsb))
            have n8 : w.heap.size < w1.heap.size := by omega
            have K1 := Lib.hid k1
            clear hb1 k1
            rcases HZ.out with ⟨rfl, rfl, hT⟩ | ⟨hz, rfl⟩
            · have HT := Lib.hid hT
              clear hT
              go_wp2_with fail
              have q0 := World.alloc_heap_new w1 (.cells #[.int .i64 x, .int .i64 y] 25)
              have kk : (w1.alloc (.cells #[.int .i64 x, .int .i64 y] 25)).heap[w.heap.size]? = _ := (Below.heap_alloc w1 _ _ n8).trans K1.out
              have BW : Below w.heap.size w (w1.alloc (.cells #[.int .i64 x, .int .i64 y] 25)) := B1.out.alloc B1.out.size _
              have hsW : w1.heap.size < (w1.alloc (.cells #[.int .i64 x, .int .i64 y] 25)).heap.size := by simp
              generalize w1.alloc (.cells #[.int .i64 x, .int .i64 y] 25) = W2 at *
              have v0 : W2.cell? ⟨w1.heap.size, 0, none⟩ = some (.int .i64 x) := cell_of_block q0 rfl
              have v1 : W2.cell? ⟨w1.heap.size, 1, none⟩ = some (.int .i64 y) := cell_of_block q0 rfl
              have n9 : w.heap.size < W2.heap.size := by omega
              have KK := Lib.hid kk
              have QQ := Lib.hid q0
              have BD := Lib.hid BW.drew
              have NS := Lib.hid BW.size
              clear kk q0 BW
              have hx := HX.out
              have a1 : (0 : Int) ≤ (k : Int) + (n : Int) := by omega
              have a2 : (k : Int) + (n : Int) ≤ (l.length : Int) := by omega
              have a3 : (k : Int) ≤ (k : Int) + (n : Int) := by omega
              have a4 : ((k : Int) + (n : Int)).toNat = k + n := by omega
              have hself : ((⟨((l.drop k).take n).toArray⟩ : ByteArray) == ⟨((l.drop k).take n).toArray⟩) = true := by rw [str_eq]; simp
              refine wp_region_any (by kernel_rfl) ?_
              change wpAny _ _ _ _ _ _ _ (World.drew _)
              refine wpAny_take (i := 1) (v := .int .i64 ((k : Int) + (n : Int))) rfl (by kernel_rfl) (by kernel_rfl) (by kernel_rfl) (fun _ _ _ h => h) (Or.inl ⟨by kernel_rfl, by intro w; go_simp <;> with_reducible rfl⟩) ?_
              (try simp only [Act.put, List.setIfInBounds_toArray, List.set_cons_zero, List.set_cons_succ])
              refine wpAny_take (i := 2) (v := .int .i64 0) rfl (by kernel_rfl) (by kernel_rfl) (by kernel_rfl) (fun _ _ _ h => h) (Or.inl ⟨by kernel_rfl, by intro w; go_simp <;> with_reducible rfl⟩) ?_
              (try simp only [Act.put, List.setIfInBounds_toArray, List.set_cons_zero, List.set_cons_succ])
              refine wpAny_take (i := 3) (v := .bool true) rfl (by kernel_rfl) (by kernel_rfl) (by kernel_rfl) (fun _ _ _ h => h) (Or.inl ⟨by kernel_rfl, by intro w; go_simp <;> with_reducible rfl⟩) ?_
              (try simp only [Act.put, List.setIfInBounds_toArray, List.set_cons_zero, List.set_cons_succ])
              refine wpAny_take (i := 4) (v := .bool true) rfl (by kernel_rfl) (by kernel_rfl) (by kernel_rfl) (fun _ _ _ h => h) (Or.inl ⟨by kernel_rfl, by intro w; go_simp <;> with_reducible rfl⟩) ?_
              (try simp only [Act.put, List.setIfInBounds_toArray, List.set_cons_zero, List.set_cons_succ])
              refine wpAny_take (i := 7) (v := .string ⟨l.toArray⟩) rfl (by kernel_rfl) (by kernel_rfl) (by kernel_rfl) (fun _ _ _ h => h) (Or.inl ⟨by kernel_rfl, by intro w; go_simp <;> with_reducible rfl⟩) ?_
              (try simp only [Act.put, List.setIfInBounds_toArray, List.set_cons_zero, List.set_cons_succ])
              refine wpAny_take (i := 8) (v := .int .i64 k) rfl (by kernel_rfl) (by kernel_rfl) (by kernel_rfl) (fun _ _ _ h => h) (Or.inl ⟨by kernel_rfl, by intro w; go_simp <;> with_reducible rfl⟩) ?_
              (try simp only [Act.put, List.setIfInBounds_toArray, List.set_cons_zero, List.set_cons_succ])
              refine wpAny_take (i := 9) (v := .int .i64 ((k : Int) + (n : Int))) rfl (by kernel_rfl) (by kernel_rfl) (by kernel_rfl) (fun _ _ _ h => h) (Or.inl ⟨by kernel_rfl, by intro w; go_simp <;> with_reducible rfl⟩) ?_
              (try simp only [Act.put, List.setIfInBounds_toArray, List.set_cons_zero, List.set_cons_succ])
              refine wpAny_take (i := 10) (v := .string ⟨((l.drop k).take n).toArray⟩) rfl (by kernel_rfl) (by kernel_rfl) (by kernel_rfl) (fun _ _ _ h => h) (Or.inl ⟨by kernel_rfl, by intro w; go_simp <;> with_reducible rfl⟩) ?_
              (try simp only [Act.put, List.setIfInBounds_toArray, List.set_cons_zero, List.set_cons_succ])
              refine wpAny_ready (rs := [0, 5]) (by kernel_rfl) (by simp) ?_
              refine AllReady.cons rfl (fun K hK => ?_) (AllReady.cons rfl (fun K hK => ?_) AllReady.nil)
              · go_simp
                refine hK _ _ ?_; clear hK K
                refine wpAny_ready (rs := [5]) (by kernel_rfl) (by simp) ?_
                refine AllReady.cons rfl (fun K hK => ?_) AllReady.nil
                go_simp
                refine hK _ _ ?_; clear hK K
                refine wpAny_ready (rs := [6]) (by kernel_rfl) (by simp) ?_
                refine AllReady.cons rfl (fun K hK => ?_) AllReady.nil
                go_simp
                go_wp2_with (go_at_call 157; refine (HT.out _).mono ?_; rintro e w3 ⟨rfl, hb3⟩; have k3 : w3.heap[w.heap.size]? = _ := (hb3.block _ n9).trans KK.out; have k4 : w3.heap[w1.heap.size]? = _ := (hb3.block _ hsW).trans QQ.out; have z0 : w3.cell? ⟨w.heap.size, 0, none⟩ = some (.int .i64 0) := cell_of_block k3 rfl; have z1 : w3.cell? ⟨w.heap.size, 1, none⟩ = some (.int .i64 0) := cell_of_block k3 rfl; have g0 := frozen_of_block (o := 0) k3; have g1 := frozen_of_block (o := 1) k3; have u0 : w3.cell? ⟨w1.heap.size, 0, none⟩ = some (.int .i64 x) := cell_of_block k4 rfl; have u1 : w3.cell? ⟨w1.heap.size, 1, none⟩ = some (.int .i64 y) := cell_of_block k4 rfl; have B3 := Lib.hid (BD.out.trans (hb3.mono NS.out)); clear hb3 k3 k4)
                refine wpAny_take (i := 11) (v := .bool true) rfl (by kernel_rfl) (by kernel_rfl) (by kernel_rfl) (fun _ _ _ h => h) (Or.inl ⟨by kernel_rfl, by intro w; go_simp <;> with_reducible rfl⟩) ?_
                (try simp only [Act.put, List.setIfInBounds_toArray, List.set_cons_zero, List.set_cons_succ])
                refine wpAny_take (i := 12) (v := .bool true) rfl (by kernel_rfl) (by kernel_rfl) (by kernel_rfl) (fun _ _ _ h => h) (Or.inl ⟨by kernel_rfl, by intro w; go_simp <;> with_reducible rfl⟩) ?_
                (try simp only [Act.put, List.setIfInBounds_toArray, List.set_cons_zero, List.set_cons_succ])
                refine wpAny_ready (rs := [13]) (by kernel_rfl) (by simp) ?_
                refine AllReady.cons rfl (fun K hK => ?_) AllReady.nil
                go_simp
                refine hK _ _ ?_; clear hK K
                refine wpAny_ready (rs := [14]) (by kernel_rfl) (by simp) ?_
                refine AllReady.cons rfl (fun K hK => ?_) AllReady.nil
                go_simp
                refine hK _ _ ?_; clear hK K
                refine wpAny_ready (rs := [15]) (by kernel_rfl) (by simp) ?_
                refine AllReady.cons rfl (fun K hK => ?_) AllReady.nil
                go_simp
                refine hK _ _ ?_; clear hK K
                refine wpAny_done (by kernel_rfl) ?_ _
                go_wp2_with fail
                refine bodyPost_ret (v := .tuple #[.agg #[.int .i64 x, .int .i64 y], .int .i64 ((k : Int) + (n : Int)), .bool true]) (by simp (maxDischargeDepth := 8) [results, Tryz.results168, go_sem, *]) rfl ?_
                exact ⟨by rw [Int.natCast_add], (B3.out.setCell (p := ⟨w.heap.size, 0, none⟩) (Nat.le_refl _) _).setCell (p := ⟨w.heap.size, 1, none⟩) (Nat.le_refl _) _⟩
              · go_simp
                refine hK _ _ ?_; clear hK K
                refine wpAny_ready (rs := [0, 6]) (by kernel_rfl) (by simp) ?_
                refine AllReady.cons rfl (fun K hK => ?_) (AllReady.cons rfl (fun K hK => ?_) AllReady.nil)
                · go_simp
                  refine hK _ _ ?_; clear hK K
                  refine wpAny_ready (rs := [6]) (by kernel_rfl) (by simp) ?_
                  refine AllReady.cons rfl (fun K hK => ?_) AllReady.nil
                  go_simp
                  go_wp2_with (go_at_call 157; refine (HT.out _).mono ?_; rintro e w3 ⟨rfl, hb3⟩; have k3 : w3.heap[w.heap.size]? = _ := (hb3.block _ n9).trans KK.out; have k4 : w3.heap[w1.heap.size]? = _ := (hb3.block _ hsW).trans QQ.out; have z0 : w3.cell? ⟨w.heap.size, 0, none⟩ = some (.int .i64 0) := cell_of_block k3 rfl; have z1 : w3.cell? ⟨w.heap.size, 1, none⟩ = some (.int .i64 0) := cell_of_block k3 rfl; have g0 := frozen_of_block (o := 0) k3; have g1 := frozen_of_block (o := 1) k3; have u0 : w3.cell? ⟨w1.heap.size, 0, none⟩ = some (.int .i64 x) := cell_of_block k4 rfl; have u1 : w3.cell? ⟨w1.heap.size, 1, none⟩ = some (.int .i64 y) := cell_of_block k4 rfl; have B3 := Lib.hid (BD.out.trans (hb3.mono NS.out)); clear hb3 k3 k4)
                  refine wpAny_take (i := 11) (v := .bool true) rfl (by kernel_rfl) (by kernel_rfl) (by kernel_rfl) (fun _ _ _ h => h) (Or.inl ⟨by kernel_rfl, by intro w; go_simp <;> with_reducible rfl⟩) ?_
                  (try simp only [Act.put, List.setIfInBounds_toArray, List.set_cons_zero, List.set_cons_succ])
                  refine wpAny_take (i := 12) (v := .bool true) rfl (by kernel_rfl) (by kernel_rfl) (by kernel_rfl) (fun _ _ _ h => h) (Or.inl ⟨by kernel_rfl, by intro w; go_simp <;> with_reducible rfl⟩) ?_
                  (try simp only [Act.put, List.setIfInBounds_toArray, List.set_cons_zero, List.set_cons_succ])
                  refine wpAny_ready (rs := [13]) (by kernel_rfl) (by simp) ?_
                  refine AllReady.cons rfl (fun K hK => ?_) AllReady.nil
                  go_simp
                  refine hK _ _ ?_; clear hK K
                  refine wpAny_ready (rs := [14]) (by kernel_rfl) (by simp) ?_
                  refine AllReady.cons rfl (fun K hK => ?_) AllReady.nil
                  go_simp
                  refine hK _ _ ?_; clear hK K
                  refine wpAny_ready (rs := [15]) (by kernel_rfl) (by simp) ?_
                  refine AllReady.cons rfl (fun K hK => ?_) AllReady.nil
                  go_simp
                  refine hK _ _ ?_; clear hK K
                  refine wpAny_done (by kernel_rfl) ?_ _
                  go_wp2_with fail
                  refine bodyPost_ret (v := .tuple #[.agg #[.int .i64 x, .int .i64 y], .int .i64 ((k : Int) + (n : Int)), .bool true]) (by simp (maxDischargeDepth := 8) [results, Tryz.results168, go_sem, *]) rfl ?_
                  exact ⟨by rw [Int.natCast_add], (B3.out.setCell (p := ⟨w.heap.size, 0, none⟩) (Nat.le_refl _) _).setCell (p := ⟨w.heap.size, 1, none⟩) (Nat.le_refl _) _⟩
                · go_simp
                  go_wp2_with (go_at_call 157; refine (HT.out _).mono ?_; rintro e w3 ⟨rfl, hb3⟩; have k3 : w3.heap[w.heap.size]? = _ := (hb3.block _ n9).trans KK.out; have k4 : w3.heap[w1.heap.size]? = _ := (hb3.block _ hsW).trans QQ.out; have z0 : w3.cell? ⟨w.heap.size, 0, none⟩ = some (.int .i64 0) := cell_of_block k3 rfl; have z1 : w3.cell? ⟨w.heap.size, 1, none⟩ = some (.int .i64 0) := cell_of_block k3 rfl; have g0 := frozen_of_block (o := 0) k3; have g1 := frozen_of_block (o := 1) k3; have u0 : w3.cell? ⟨w1.heap.size, 0, none⟩ = some (.int .i64 x) := cell_of_block k4 rfl; have u1 : w3.cell? ⟨w1.heap.size, 1, none⟩ = some (.int .i64 y) := cell_of_block k4 rfl; have B3 := Lib.hid (BD.out.trans (hb3.mono NS.out)); clear hb3 k3 k4)
                  refine wpAny_take (i := 11) (v := .bool true) rfl (by kernel_rfl) (by kernel_rfl) (by kernel_rfl) (fun _ _ _ h => h) (Or.inl ⟨by kernel_rfl, by intro w; go_simp <;> with_reducible rfl⟩) ?_
                  (try simp only [Act.put, List.setIfInBounds_toArray, List.set_cons_zero, List.set_cons_succ])
                  refine wpAny_take (i := 12) (v := .bool true) rfl (by kernel_rfl) (by kernel_rfl) (by kernel_rfl) (fun _ _ _ h => h) (Or.inl ⟨by kernel_rfl, by intro w; go_simp <;> with_reducible rfl⟩) ?_
                  (try simp only [Act.put, List.setIfInBounds_toArray, List.set_cons_zero, List.set_cons_succ])
                  refine wpAny_ready (rs := [0]) (by kernel_rfl) (by simp) ?_
                  refine AllReady.cons rfl (fun K hK => ?_) AllReady.nil
                  go_simp
                  refine hK _ _ ?_; clear hK K
                  refine wpAny_ready (rs := [13]) (by kernel_rfl) (by simp) ?_
                  refine AllReady.cons rfl (fun K hK => ?_) AllReady.nil
                  go_simp
                  refine hK _ _ ?_; clear hK K
                  refine wpAny_ready (rs := [14]) (by kernel_rfl) (by simp) ?_
                  refine AllReady.cons rfl (fun K hK => ?_) AllReady.nil
                  go_simp
                  refine hK _ _ ?_; clear hK K
                  refine wpAny_ready (rs := [15]) (by kernel_rfl) (by simp) ?_
                  refine AllReady.cons rfl (fun K hK => ?_) AllReady.nil
                  go_simp
                  refine hK _ _ ?_; clear hK K
                  refine wpAny_done (by kernel_rfl) ?_ _
                  go_wp2_with fail
                  refine bodyPost_ret (v := .tuple #[.agg #[.int .i64 x, .int .i64 y], .int .i64 ((k : Int) + (n : Int)), .bool true]) (by simp (maxDischargeDepth := 8) [results, Tryz.results168, go_sem, *]) rfl ?_
                  exact ⟨by rw [Int.natCast_add], (B3.out.setCell (p := ⟨w.heap.size, 0, none⟩) (Nat.le_refl _) _).setCell (p := ⟨w.heap.size, 1, none⟩) (Nat.le_refl _) _⟩
            · have bz : (z == 0) = false := by simpa using hz
              clear hz
              go_wp2_with fail
              have q0 := World.alloc_heap_new w1 (.cells #[.int .i64 x, .int .i64 y] 25)
              have kk : (w1.alloc (.cells #[.int .i64 x, .int .i64 y] 25)).heap[w.heap.size]? = _ := (Below.heap_alloc w1 _ _ n8).trans K1.out
              have BW : Below w.heap.size w (w1.alloc (.cells #[.int .i64 x, .int .i64 y] 25)) := B1.out.alloc B1.out.size _
              have hsW : w1.heap.size < (w1.alloc (.cells #[.int .i64 x, .int .i64 y] 25)).heap.size := by simp
              generalize w1.alloc (.cells #[.int .i64 x, .int .i64 y] 25) = W2 at *
              have v0 : W2.cell? ⟨w1.heap.size, 0, none⟩ = some (.int .i64 x) := cell_of_block q0 rfl
              have v1 : W2.cell? ⟨w1.heap.size, 1, none⟩ = some (.int .i64 y) := cell_of_block q0 rfl
              have z0 : W2.cell? ⟨w.heap.size, 0, none⟩ = some (.int .i64 0) := cell_of_block kk rfl
              have z1 : W2.cell? ⟨w.heap.size, 1, none⟩ = some (.int .i64 0) := cell_of_block kk rfl
              have g0 := frozen_of_block (o := 0) kk
              have g1 := frozen_of_block (o := 1) kk
              have B3 := Lib.hid BW.drew
              clear kk q0 BW
              refine wp_region_any (by kernel_rfl) ?_
              change wpAny _ _ _ _ _ _ _ (World.drew _)
              refine wpAny_take (i := 1) (v := .int .i64 ((k : Int) + (n : Int))) rfl (by kernel_rfl) (by kernel_rfl) (by kernel_rfl) (fun _ _ _ h => h) (Or.inl ⟨by kernel_rfl, by intro w; go_simp <;> with_reducible rfl⟩) ?_
              (try simp only [Act.put, List.setIfInBounds_toArray, List.set_cons_zero, List.set_cons_succ])
              refine wpAny_take (i := 2) (v := .int .i64 z) rfl (by kernel_rfl) (by kernel_rfl) (by kernel_rfl) (fun _ _ _ h => h) (Or.inl ⟨by kernel_rfl, by intro w; go_simp <;> with_reducible rfl⟩) ?_
              (try simp only [Act.put, List.setIfInBounds_toArray, List.set_cons_zero, List.set_cons_succ])
              refine wpAny_take (i := 3) (v := .bool false) rfl (by kernel_rfl) (by kernel_rfl) (by kernel_rfl) (fun _ _ _ h => h) (Or.inl ⟨by kernel_rfl, by intro w; go_simp <;> with_reducible rfl⟩) ?_
              (try simp only [Act.put, List.setIfInBounds_toArray, List.set_cons_zero, List.set_cons_succ])
              refine wpAny_take (i := 4) (v := .bool false) rfl (by kernel_rfl) (by kernel_rfl) (by kernel_rfl) (fun _ _ _ h => h) (Or.inl ⟨by kernel_rfl, by intro w; go_simp <;> with_reducible rfl⟩) ?_
              (try simp only [Act.put, List.setIfInBounds_toArray, List.set_cons_zero, List.set_cons_succ])
              refine wpAny_take (i := 5) (v := undef) rfl (by kernel_rfl) (by kernel_rfl) (by kernel_rfl) (fun _ _ _ h => h) (Or.inr ⟨by kernel_rfl, rfl⟩) ?_
              (try simp only [Act.put, List.setIfInBounds_toArray, List.set_cons_zero, List.set_cons_succ])
              refine wpAny_take (i := 6) (v := undef) rfl (by kernel_rfl) (by kernel_rfl) (by kernel_rfl) (fun _ _ _ h => h) (Or.inr ⟨by kernel_rfl, rfl⟩) ?_
              (try simp only [Act.put, List.setIfInBounds_toArray, List.set_cons_zero, List.set_cons_succ])
              refine wpAny_take (i := 7) (v := undef) rfl (by kernel_rfl) (by kernel_rfl) (by kernel_rfl) (fun _ _ _ h => h) (Or.inr ⟨by kernel_rfl, rfl⟩) ?_
              (try simp only [Act.put, List.setIfInBounds_toArray, List.set_cons_zero, List.set_cons_succ])
              refine wpAny_take (i := 8) (v := undef) rfl (by kernel_rfl) (by kernel_rfl) (by kernel_rfl) (fun _ _ _ h => h) (Or.inr ⟨by kernel_rfl, rfl⟩) ?_
              (try simp only [Act.put, List.setIfInBounds_toArray, List.set_cons_zero, List.set_cons_succ])
              refine wpAny_take (i := 9) (v := undef) rfl (by kernel_rfl) (by kernel_rfl) (by kernel_rfl) (fun _ _ _ h => h) (Or.inr ⟨by kernel_rfl, rfl⟩) ?_
              (try simp only [Act.put, List.setIfInBounds_toArray, List.set_cons_zero, List.set_cons_succ])
              refine wpAny_take (i := 10) (v := undef) rfl (by kernel_rfl) (by kernel_rfl) (by kernel_rfl) (fun _ _ _ h => h) (Or.inr ⟨by kernel_rfl, rfl⟩) ?_
              (try simp only [Act.put, List.setIfInBounds_toArray, List.set_cons_zero, List.set_cons_succ])
              refine wpAny_take (i := 11) (v := undef) rfl (by kernel_rfl) (by kernel_rfl) (by kernel_rfl) (fun _ _ _ h => h) (Or.inr ⟨by kernel_rfl, rfl⟩) ?_
              (try simp only [Act.put, List.setIfInBounds_toArray, List.set_cons_zero, List.set_cons_succ])
              refine wpAny_take (i := 12) (v := .bool false) rfl (by kernel_rfl) (by kernel_rfl) (by kernel_rfl) (fun _ _ _ h => h) (Or.inl ⟨by kernel_rfl, by intro w; go_simp <;> with_reducible rfl⟩) ?_
              (try simp only [Act.put, List.setIfInBounds_toArray, List.set_cons_zero, List.set_cons_succ])
              refine wpAny_ready (rs := [0]) (by kernel_rfl) (by simp) ?_
              refine AllReady.cons rfl (fun K hK => ?_) AllReady.nil
              go_simp
              refine hK _ _ ?_; clear hK K
              refine wpAny_ready (rs := [13]) (by kernel_rfl) (by simp) ?_
              refine AllReady.cons rfl (fun K hK => ?_) AllReady.nil
              go_simp
              refine hK _ _ ?_; clear hK K
              refine wpAny_ready (rs := [14]) (by kernel_rfl) (by simp) ?_
              refine AllReady.cons rfl (fun K hK => ?_) AllReady.nil
              go_simp
              refine hK _ _ ?_; clear hK K
              refine wpAny_ready (rs := [15]) (by kernel_rfl) (by simp) ?_
              refine AllReady.cons rfl (fun K hK => ?_) AllReady.nil
              go_simp
              refine hK _ _ ?_; clear hK K
              refine wpAny_done (by kernel_rfl) ?_ _
              all_goals
                go_wp2_with fail
                refine bodyPost_ret (v := .tuple #[.agg #[.int .i64 x, .int .i64 y], .int .i64 ((k : Int) + (n : Int)), .bool false]) (by simp (maxDischargeDepth := 8) [results, Tryz.results168, go_sem, *]) rfl ?_
                exact ⟨by rw [Int.natCast_add], (B3.out.setCell (p := ⟨w.heap.size, 0, none⟩) (Nat.le_refl _) _).setCell (p := ⟨w.heap.size, 1, none⟩) (Nat.le_refl _) _⟩
    · have dn : decide (k + n < l.length) = false := by simpa using hlt
      have HN := Lib.hid (fin (fun h => absurd h hlt))
      clear fin
      go_wp2_with fail
      obtain rfl := HN.out
      rw [HX.out]
      refine (HPA.out _).mono ?_
      rintro e w1 ⟨rfl, hb1⟩
      have hs1 := hb1.size
      have hsb := HB.out.size
      have hlt0 := (Array.getElem?_eq_some_iff.1 HK.out).1
      have k1 := (hb1.block _ hlt0).trans HK.out
      have B1 := Lib.hid (HB.out.trans (hb1.mono hsb))
      have n8 : w.heap.size < w1.heap.size := by omega
      have K1 := Lib.hid k1
      clear hb1 k1
      rcases HZ.out with ⟨rfl, rfl, hT⟩ | ⟨hz, rfl⟩
      · have HT := Lib.hid hT
        clear hT
        go_wp2_with fail
        have q0 := World.alloc_heap_new w1 (.cells #[.int .i64 x, .int .i64 y] 25)
        have kk : (w1.alloc (.cells #[.int .i64 x, .int .i64 y] 25)).heap[w.heap.size]? = _ := (Below.heap_alloc w1 _ _ n8).trans K1.out
        have BW : Below w.heap.size w (w1.alloc (.cells #[.int .i64 x, .int .i64 y] 25)) := B1.out.alloc B1.out.size _
        have hsW : w1.heap.size < (w1.alloc (.cells #[.int .i64 x, .int .i64 y] 25)).heap.size := by simp
        generalize w1.alloc (.cells #[.int .i64 x, .int .i64 y] 25) = W2 at *
        have v0 : W2.cell? ⟨w1.heap.size, 0, none⟩ = some (.int .i64 x) := cell_of_block q0 rfl
        have v1 : W2.cell? ⟨w1.heap.size, 1, none⟩ = some (.int .i64 y) := cell_of_block q0 rfl
        have n9 : w.heap.size < W2.heap.size := by omega
        have KK := Lib.hid kk
        have QQ := Lib.hid q0
        have BD := Lib.hid BW.drew
        have NS := Lib.hid BW.size
        clear kk q0 BW
        have hx := HX.out
        have a1 : (0 : Int) ≤ (k : Int) + (n : Int) := by omega
        have a2 : (k : Int) + (n : Int) ≤ (l.length : Int) := by omega
        have a3 : (k : Int) ≤ (k : Int) + (n : Int) := by omega
        have a4 : ((k : Int) + (n : Int)).toNat = k + n := by omega
        have hself : ((⟨((l.drop k).take n).toArray⟩ : ByteArray) == ⟨((l.drop k).take n).toArray⟩) = true := by rw [str_eq]; simp
        refine wp_region_any (by kernel_rfl) ?_
        change wpAny _ _ _ _ _ _ _ (World.drew _)
        refine wpAny_take (i := 1) (v := .int .i64 ((k : Int) + (n : Int))) rfl (by kernel_rfl) (by kernel_rfl) (by kernel_rfl) (fun _ _ _ h => h) (Or.inl ⟨by kernel_rfl, by intro w; go_simp <;> with_reducible rfl⟩) ?_
        (try simp only [Act.put, List.setIfInBounds_toArray, List.set_cons_zero, List.set_cons_succ])
        refine wpAny_take (i := 2) (v := .int .i64 0) rfl (by kernel_rfl) (by kernel_rfl) (by kernel_rfl) (fun _ _ _ h => h) (Or.inl ⟨by kernel_rfl, by intro w; go_simp <;> with_reducible rfl⟩) ?_
        (try simp only [Act.put, List.setIfInBounds_toArray, List.set_cons_zero, List.set_cons_succ])
        refine wpAny_take (i := 3) (v := .bool true) rfl (by kernel_rfl) (by kernel_rfl) (by kernel_rfl) (fun _ _ _ h => h) (Or.inl ⟨by kernel_rfl, by intro w; go_simp <;> with_reducible rfl⟩) ?_
        (try simp only [Act.put, List.setIfInBounds_toArray, List.set_cons_zero, List.set_cons_succ])
        refine wpAny_take (i := 4) (v := .bool true) rfl (by kernel_rfl) (by kernel_rfl) (by kernel_rfl) (fun _ _ _ h => h) (Or.inl ⟨by kernel_rfl, by intro w; go_simp <;> with_reducible rfl⟩) ?_
        (try simp only [Act.put, List.setIfInBounds_toArray, List.set_cons_zero, List.set_cons_succ])
        refine wpAny_take (i := 7) (v := .string ⟨l.toArray⟩) rfl (by kernel_rfl) (by kernel_rfl) (by kernel_rfl) (fun _ _ _ h => h) (Or.inl ⟨by kernel_rfl, by intro w; go_simp <;> with_reducible rfl⟩) ?_
        (try simp only [Act.put, List.setIfInBounds_toArray, List.set_cons_zero, List.set_cons_succ])
        refine wpAny_take (i := 8) (v := .int .i64 k) rfl (by kernel_rfl) (by kernel_rfl) (by kernel_rfl) (fun _ _ _ h => h) (Or.inl ⟨by kernel_rfl, by intro w; go_simp <;> with_reducible rfl⟩) ?_
        (try simp only [Act.put, List.setIfInBounds_toArray, List.set_cons_zero, List.set_cons_succ])
        refine wpAny_take (i := 9) (v := .int .i64 ((k : Int) + (n : Int))) rfl (by kernel_rfl) (by kernel_rfl) (by kernel_rfl) (fun _ _ _ h => h) (Or.inl ⟨by kernel_rfl, by intro w; go_simp <;> with_reducible rfl⟩) ?_
        (try simp only [Act.put, List.setIfInBounds_toArray, List.set_cons_zero, List.set_cons_succ])
        refine wpAny_take (i := 10) (v := .string ⟨((l.drop k).take n).toArray⟩) rfl (by kernel_rfl) (by kernel_rfl) (by kernel_rfl) (fun _ _ _ h => h) (Or.inl ⟨by kernel_rfl, by intro w; go_simp <;> with_reducible rfl⟩) ?_
        (try simp only [Act.put, List.setIfInBounds_toArray, List.set_cons_zero, List.set_cons_succ])
        refine wpAny_ready (rs := [0, 5]) (by kernel_rfl) (by simp) ?_
        refine AllReady.cons rfl (fun K hK => ?_) (AllReady.cons rfl (fun K hK => ?_) AllReady.nil)
        · go_simp
          refine hK _ _ ?_; clear hK K
          refine wpAny_ready (rs := [5]) (by kernel_rfl) (by simp) ?_
          refine AllReady.cons rfl (fun K hK => ?_) AllReady.nil
          go_simp
          refine hK _ _ ?_; clear hK K
          refine wpAny_ready (rs := [6]) (by kernel_rfl) (by simp) ?_
          refine AllReady.cons rfl (fun K hK => ?_) AllReady.nil
          go_simp
          go_wp2_with (go_at_call 157; refine (HT.out _).mono ?_; rintro e w3 ⟨rfl, hb3⟩; have k3 : w3.heap[w.heap.size]? = _ := (hb3.block _ n9).trans KK.out; have k4 : w3.heap[w1.heap.size]? = _ := (hb3.block _ hsW).trans QQ.out; have z0 : w3.cell? ⟨w.heap.size, 0, none⟩ = some (.int .i64 0) := cell_of_block k3 rfl; have z1 : w3.cell? ⟨w.heap.size, 1, none⟩ = some (.int .i64 0) := cell_of_block k3 rfl; have g0 := frozen_of_block (o := 0) k3; have g1 := frozen_of_block (o := 1) k3; have u0 : w3.cell? ⟨w1.heap.size, 0, none⟩ = some (.int .i64 x) := cell_of_block k4 rfl; have u1 : w3.cell? ⟨w1.heap.size, 1, none⟩ = some (.int .i64 y) := cell_of_block k4 rfl; have B3 := Lib.hid (BD.out.trans (hb3.mono NS.out)); clear hb3 k3 k4)
          refine wpAny_take (i := 11) (v := .bool true) rfl (by kernel_rfl) (by kernel_rfl) (by kernel_rfl) (fun _ _ _ h => h) (Or.inl ⟨by kernel_rfl, by intro w; go_simp <;> with_reducible rfl⟩) ?_
          (try simp only [Act.put, List.setIfInBounds_toArray, List.set_cons_zero, List.set_cons_succ])
          refine wpAny_take (i := 12) (v := .bool true) rfl (by kernel_rfl) (by kernel_rfl) (by kernel_rfl) (fun _ _ _ h => h) (Or.inl ⟨by kernel_rfl, by intro w; go_simp <;> with_reducible rfl⟩) ?_
          (try simp only [Act.put, List.setIfInBounds_toArray, List.set_cons_zero, List.set_cons_succ])
          refine wpAny_ready (rs := [13]) (by kernel_rfl) (by simp) ?_
          refine AllReady.cons rfl (fun K hK => ?_) AllReady.nil
          go_simp
          refine hK _ _ ?_; clear hK K
          refine wpAny_ready (rs := [14]) (by kernel_rfl) (by simp) ?_
          refine AllReady.cons rfl (fun K hK => ?_) AllReady.nil
          go_simp
          refine hK _ _ ?_; clear hK K
          refine wpAny_ready (rs := [15]) (by kernel_rfl) (by simp) ?_
          refine AllReady.cons rfl (fun K hK => ?_) AllReady.nil
          go_simp
          refine hK _ _ ?_; clear hK K
          refine wpAny_done (by kernel_rfl) ?_ _
          go_wp2_with fail
          refine bodyPost_ret (v := .tuple #[.agg #[.int .i64 x, .int .i64 y], .int .i64 ((k : Int) + (n : Int)), .bool true]) (by simp (maxDischargeDepth := 8) [results, Tryz.results168, go_sem, *]) rfl ?_
          exact ⟨by rw [Int.natCast_add], (B3.out.setCell (p := ⟨w.heap.size, 0, none⟩) (Nat.le_refl _) _).setCell (p := ⟨w.heap.size, 1, none⟩) (Nat.le_refl _) _⟩
        · go_simp
          refine hK _ _ ?_; clear hK K
          refine wpAny_ready (rs := [0, 6]) (by kernel_rfl) (by simp) ?_
          refine AllReady.cons rfl (fun K hK => ?_) (AllReady.cons rfl (fun K hK => ?_) AllReady.nil)
          · go_simp
            refine hK _ _ ?_; clear hK K
            refine wpAny_ready (rs := [6]) (by kernel_rfl) (by simp) ?_
            refine AllReady.cons rfl (fun K hK => ?_) AllReady.nil
            go_simp
            go_wp2_with (go_at_call 157; refine (HT.out _).mono ?_; rintro e w3 ⟨rfl, hb3⟩; have k3 : w3.heap[w.heap.size]? = _ := (hb3.block _ n9).trans KK.out; have k4 : w3.heap[w1.heap.size]? = _ := (hb3.block _ hsW).trans QQ.out; have z0 : w3.cell? ⟨w.heap.size, 0, none⟩ = some (.int .i64 0) := cell_of_block k3 rfl; have z1 : w3.cell? ⟨w.heap.size, 1, none⟩ = some (.int .i64 0) := cell_of_block k3 rfl; have g0 := frozen_of_block (o := 0) k3; have g1 := frozen_of_block (o := 1) k3; have u0 : w3.cell? ⟨w1.heap.size, 0, none⟩ = some (.int .i64 x) := cell_of_block k4 rfl; have u1 : w3.cell? ⟨w1.heap.size, 1, none⟩ = some (.int .i64 y) := cell_of_block k4 rfl; have B3 := Lib.hid (BD.out.trans (hb3.mono NS.out)); clear hb3 k3 k4)
            refine wpAny_take (i := 11) (v := .bool true) rfl (by kernel_rfl) (by kernel_rfl) (by kernel_rfl) (fun _ _ _ h => h) (Or.inl ⟨by kernel_rfl, by intro w; go_simp <;> with_reducible rfl⟩) ?_
            (try simp only [Act.put, List.setIfInBounds_toArray, List.set_cons_zero, List.set_cons_succ])
            refine wpAny_take (i := 12) (v := .bool true) rfl (by kernel_rfl) (by kernel_rfl) (by kernel_rfl) (fun _ _ _ h => h) (Or.inl ⟨by kernel_rfl, by intro w; go_simp <;> with_reducible rfl⟩) ?_
            (try simp only [Act.put, List.setIfInBounds_toArray, List.set_cons_zero, List.set_cons_succ])
            refine wpAny_ready (rs := [13]) (by kernel_rfl) (by simp) ?_
            refine AllReady.cons rfl (fun K hK => ?_) AllReady.nil
            go_simp
            refine hK _ _ ?_; clear hK K
            refine wpAny_ready (rs := [14]) (by kernel_rfl) (by simp) ?_
            refine AllReady.cons rfl (fun K hK => ?_) AllReady.nil
            go_simp
            refine hK _ _ ?_; clear hK K
            refine wpAny_ready (rs := [15]) (by kernel_rfl) (by simp) ?_
            refine AllReady.cons rfl (fun K hK => ?_) AllReady.nil
            go_simp
            refine hK _ _ ?_; clear hK K
            refine wpAny_done (by kernel_rfl) ?_ _
            go_wp2_with fail
            refine bodyPost_ret (v := .tuple #[.agg #[.int .i64 x, .int .i64 y], .int .i64 ((k : Int) + (n : Int)), .bool true]) (by simp (maxDischargeDepth := 8) [results, Tryz.results168, go_sem, *]) rfl ?_
            exact ⟨by rw [Int.natCast_add], (B3.out.setCell (p := ⟨w.heap.size, 0, none⟩) (Nat.le_refl _) _).setCell (p := ⟨w.heap.size, 1, none⟩) (Nat.le_refl _) _⟩
          · go_simp
            go_wp2_with (go_at_call 157; refine (HT.out _).mono ?_; rintro e w3 ⟨rfl, hb3⟩; have k3 : w3.heap[w.heap.size]? = _ := (hb3.block _ n9).trans KK.out; have k4 : w3.heap[w1.heap.size]? = _ := (hb3.block _ hsW).trans QQ.out; have z0 : w3.cell? ⟨w.heap.size, 0, none⟩ = some (.int .i64 0) := cell_of_block k3 rfl; have z1 : w3.cell? ⟨w.heap.size, 1, none⟩ = some (.int .i64 0) := cell_of_block k3 rfl; have g0 := frozen_of_block (o := 0) k3; have g1 := frozen_of_block (o := 1) k3; have u0 : w3.cell? ⟨w1.heap.size, 0, none⟩ = some (.int .i64 x) := cell_of_block k4 rfl; have u1 : w3.cell? ⟨w1.heap.size, 1, none⟩ = some (.int .i64 y) := cell_of_block k4 rfl; have B3 := Lib.hid (BD.out.trans (hb3.mono NS.out)); clear hb3 k3 k4)
            refine wpAny_take (i := 11) (v := .bool true) rfl (by kernel_rfl) (by kernel_rfl) (by kernel_rfl) (fun _ _ _ h => h) (Or.inl ⟨by kernel_rfl, by intro w; go_simp <;> with_reducible rfl⟩) ?_
            (try simp only [Act.put, List.setIfInBounds_toArray, List.set_cons_zero, List.set_cons_succ])
            refine wpAny_take (i := 12) (v := .bool true) rfl (by kernel_rfl) (by kernel_rfl) (by kernel_rfl) (fun _ _ _ h => h) (Or.inl ⟨by kernel_rfl, by intro w; go_simp <;> with_reducible rfl⟩) ?_
            (try simp only [Act.put, List.setIfInBounds_toArray, List.set_cons_zero, List.set_cons_succ])
            refine wpAny_ready (rs := [0]) (by kernel_rfl) (by simp) ?_
            refine AllReady.cons rfl (fun K hK => ?_) AllReady.nil
            go_simp
            refine hK _ _ ?_; clear hK K
            refine wpAny_ready (rs := [13]) (by kernel_rfl) (by simp) ?_
            refine AllReady.cons rfl (fun K hK => ?_) AllReady.nil
            go_simp
            refine hK _ _ ?_; clear hK K
            refine wpAny_ready (rs := [14]) (by kernel_rfl) (by simp) ?_
            refine AllReady.cons rfl (fun K hK => ?_) AllReady.nil
            go_simp
            refine hK _ _ ?_; clear hK K
            refine wpAny_ready (rs := [15]) (by kernel_rfl) (by simp) ?_
            refine AllReady.cons rfl (fun K hK => ?_) AllReady.nil
            go_simp
            refine hK _ _ ?_; clear hK K
            refine wpAny_done (by kernel_rfl) ?_ _
            go_wp2_with fail
            refine bodyPost_ret (v := .tuple #[.agg #[.int .i64 x, .int .i64 y], .int .i64 ((k : Int) + (n : Int)), .bool true]) (by simp (maxDischargeDepth := 8) [results, Tryz.results168, go_sem, *]) rfl ?_
            exact ⟨by rw [Int.natCast_add], (B3.out.setCell (p := ⟨w.heap.size, 0, none⟩) (Nat.le_refl _) _).setCell (p := ⟨w.heap.size, 1, none⟩) (Nat.le_refl _) _⟩
      · have bz : (z == 0) = false := by simpa using hz
        clear hz
        go_wp2_with fail
        have q0 := World.alloc_heap_new w1 (.cells #[.int .i64 x, .int .i64 y] 25)
        have kk : (w1.alloc (.cells #[.int .i64 x, .int .i64 y] 25)).heap[w.heap.size]? = _ := (Below.heap_alloc w1 _ _ n8).trans K1.out
        have BW : Below w.heap.size w (w1.alloc (.cells #[.int .i64 x, .int .i64 y] 25)) := B1.out.alloc B1.out.size _
        have hsW : w1.heap.size < (w1.alloc (.cells #[.int .i64 x, .int .i64 y] 25)).heap.size := by simp
        generalize w1.alloc (.cells #[.int .i64 x, .int .i64 y] 25) = W2 at *
        have v0 : W2.cell? ⟨w1.heap.size, 0, none⟩ = some (.int .i64 x) := cell_of_block q0 rfl
        have v1 : W2.cell? ⟨w1.heap.size, 1, none⟩ = some (.int .i64 y) := cell_of_block q0 rfl
        have z0 : W2.cell? ⟨w.heap.size, 0, none⟩ = some (.int .i64 0) := cell_of_block kk rfl
        have z1 : W2.cell? ⟨w.heap.size, 1, none⟩ = some (.int .i64 0) := cell_of_block kk rfl
        have g0 := frozen_of_block (o := 0) kk
        have g1 := frozen_of_block (o := 1) kk
        have B3 := Lib.hid BW.drew
        clear kk q0 BW
        refine wp_region_any (by kernel_rfl) ?_
        change wpAny _ _ _ _ _ _ _ (World.drew _)
        refine wpAny_take (i := 1) (v := .int .i64 ((k : Int) + (n : Int))) rfl (by kernel_rfl) (by kernel_rfl) (by kernel_rfl) (fun _ _ _ h => h) (Or.inl ⟨by kernel_rfl, by intro w; go_simp <;> with_reducible rfl⟩) ?_
        (try simp only [Act.put, List.setIfInBounds_toArray, List.set_cons_zero, List.set_cons_succ])
        refine wpAny_take (i := 2) (v := .int .i64 z) rfl (by kernel_rfl) (by kernel_rfl) (by kernel_rfl) (fun _ _ _ h => h) (Or.inl ⟨by kernel_rfl, by intro w; go_simp <;> with_reducible rfl⟩) ?_
        (try simp only [Act.put, List.setIfInBounds_toArray, List.set_cons_zero, List.set_cons_succ])
        refine wpAny_take (i := 3) (v := .bool false) rfl (by kernel_rfl) (by kernel_rfl) (by kernel_rfl) (fun _ _ _ h => h) (Or.inl ⟨by kernel_rfl, by intro w; go_simp <;> with_reducible rfl⟩) ?_
        (try simp only [Act.put, List.setIfInBounds_toArray, List.set_cons_zero, List.set_cons_succ])
        refine wpAny_take (i := 4) (v := .bool false) rfl (by kernel_rfl) (by kernel_rfl) (by kernel_rfl) (fun _ _ _ h => h) (Or.inl ⟨by kernel_rfl, by intro w; go_simp <;> with_reducible rfl⟩) ?_
        (try simp only [Act.put, List.setIfInBounds_toArray, List.set_cons_zero, List.set_cons_succ])
        refine wpAny_take (i := 5) (v := undef) rfl (by kernel_rfl) (by kernel_rfl) (by kernel_rfl) (fun _ _ _ h => h) (Or.inr ⟨by kernel_rfl, rfl⟩) ?_
        (try simp only [Act.put, List.setIfInBounds_toArray, List.set_cons_zero, List.set_cons_succ])
        refine wpAny_take (i := 6) (v := undef) rfl (by kernel_rfl) (by kernel_rfl) (by kernel_rfl) (fun _ _ _ h => h) (Or.inr ⟨by kernel_rfl, rfl⟩) ?_
        (try simp only [Act.put, List.setIfInBounds_toArray, List.set_cons_zero, List.set_cons_succ])
        refine wpAny_take (i := 7) (v := undef) rfl (by kernel_rfl) (by kernel_rfl) (by kernel_rfl) (fun _ _ _ h => h) (Or.inr ⟨by kernel_rfl, rfl⟩) ?_
        (try simp only [Act.put, List.setIfInBounds_toArray, List.set_cons_zero, List.set_cons_succ])
        refine wpAny_take (i := 8) (v := undef) rfl (by kernel_rfl) (by kernel_rfl) (by kernel_rfl) (fun _ _ _ h => h) (Or.inr ⟨by kernel_rfl, rfl⟩) ?_
        (try simp only [Act.put, List.setIfInBounds_toArray, List.set_cons_zero, List.set_cons_succ])
        refine wpAny_take (i := 9) (v := undef) rfl (by kernel_rfl) (by kernel_rfl) (by kernel_rfl) (fun _ _ _ h => h) (Or.inr ⟨by kernel_rfl, rfl⟩) ?_
        (try simp only [Act.put, List.setIfInBounds_toArray, List.set_cons_zero, List.set_cons_succ])
        refine wpAny_take (i := 10) (v := undef) rfl (by kernel_rfl) (by kernel_rfl) (by kernel_rfl) (fun _ _ _ h => h) (Or.inr ⟨by kernel_rfl, rfl⟩) ?_
        (try simp only [Act.put, List.setIfInBounds_toArray, List.set_cons_zero, List.set_cons_succ])
        refine wpAny_take (i := 11) (v := undef) rfl (by kernel_rfl) (by kernel_rfl) (by kernel_rfl) (fun _ _ _ h => h) (Or.inr ⟨by kernel_rfl, rfl⟩) ?_
        (try simp only [Act.put, List.setIfInBounds_toArray, List.set_cons_zero, List.set_cons_succ])
        refine wpAny_take (i := 12) (v := .bool false) rfl (by kernel_rfl) (by kernel_rfl) (by kernel_rfl) (fun _ _ _ h => h) (Or.inl ⟨by kernel_rfl, by intro w; go_simp <;> with_reducible rfl⟩) ?_
        (try simp only [Act.put, List.setIfInBounds_toArray, List.set_cons_zero, List.set_cons_succ])
        refine wpAny_ready (rs := [0]) (by kernel_rfl) (by simp) ?_
        refine AllReady.cons rfl (fun K hK => ?_) AllReady.nil
        go_simp
        refine hK _ _ ?_; clear hK K
        refine wpAny_ready (rs := [13]) (by kernel_rfl) (by simp) ?_
        refine AllReady.cons rfl (fun K hK => ?_) AllReady.nil
        go_simp
        refine hK _ _ ?_; clear hK K
        refine wpAny_ready (rs := [14]) (by kernel_rfl) (by simp) ?_
        refine AllReady.cons rfl (fun K hK => ?_) AllReady.nil
        go_simp
        refine hK _ _ ?_; clear hK K
        refine wpAny_ready (rs := [15]) (by kernel_rfl) (by simp) ?_
        refine AllReady.cons rfl (fun K hK => ?_) AllReady.nil
        go_simp
        refine hK _ _ ?_; clear hK K
        refine wpAny_done (by kernel_rfl) ?_ _
        all_goals
          go_wp2_with fail
          refine bodyPost_ret (v := .tuple #[.agg #[.int .i64 x, .int .i64 y], .int .i64 ((k : Int) + (n : Int)), .bool false]) (by simp (maxDischargeDepth := 8) [results, Tryz.results168, go_sem, *]) rfl ?_
          exact ⟨by rw [Int.natCast_add], (B3.out.setCell (p := ⟨w.heap.size, 0, none⟩) (Nat.le_refl _) _).setCell (p := ⟨w.heap.size, 1, none⟩) (Nat.le_refl _) _⟩

theorem numeral_any (l : List UInt8) (k : Nat) (w : World) (hk : k ≤ l.length) (hl : l.length ≤ 90000) :
    Calls Tryz.prog 168 #[.string ⟨l.toArray⟩, .int .i64 k] w (NumRes w l k) := by
  have hle := numLen_le (l.drop k)
  have hle' : k + numLen (l.drop k) ≤ l.length := by simp at hle; omega
  have hml : ∀ n, (∀ j, j < n → numB (l.getD (k + j) 0) = true) → k + n ≤ l.length → (∀ h : k + n < l.length, numB l[k + n] = false) → n = numLen (l.drop k) := by
    intro n h1 h2 h3
    refine (numLen_at (fun j hj hlt => ?_) (by simp; omega) (fun h => ?_)).symm
    · have := h1 j hlt
      rw [← drop_getD, List.getD_eq_getElem?_getD, List.getElem?_eq_getElem hj, Option.getD_some] at this
      exact this
    · rw [List.getElem_drop]; exact h3 (by simp at h; omega)
  have PA := fun w => rparse_any ((l.drop k).take (numLen (l.drop k))) w (by simp; omega)
  rw [rparse_eq] at PA
  have HF : figP (l.drop k) = if (parseT ((l.drop k).take (numLen (l.drop k)))).2.2 = 0 then some (((parseT ((l.drop k).take (numLen (l.drop k)))).1, (parseT ((l.drop k).take (numLen (l.drop k)))).2.1), (l.drop k).drop (numLen (l.drop k))) else none := rfl
  obtain ⟨p, hp⟩ : ∃ p, parseT ((l.drop k).take (numLen (l.drop k))) = p := ⟨_, rfl⟩
  rw [hp] at PA HF
  obtain ⟨x, y, z⟩ := p
  by_cases hz : z = 0
  · subst hz
    have HF' := HF.trans (if_pos rfl)
    have ht := figP_text HF'
    have htt : (l.drop k).take (numLen (l.drop k)) = toldS x y := by
      have h1 := List.take_append_drop (numLen (l.drop k)) (l.drop k)
      rw [ht.1] at h1
      have h2 : (toldS x y).length = numLen (l.drop k) := by
        have := congrArg List.length ht.1
        simp at this hle ⊢
        omega
      have := congrArg (List.take (numLen (l.drop k))) ht.1
      rw [this, ← h2, List.take_left]
    refine (numeral_of l k (numLen (l.drop k)) x y 0 true w hle' hl hml PA (.inl ⟨rfl, rfl, fun w => by rw [htt]; exact told_any x y w (fit_of_chk ht.2)⟩)).mono fun e w' ⟨he, hb⟩ => ⟨x, y, by rw [he, HF']; rfl, fun a b r h => ?_, hb⟩
    rw [HF'] at h
    have h1 := (Prod.mk.inj (Option.some.inj h)).1
    exact Prod.mk.inj h1
  · have HF' := HF.trans (if_neg hz)
    refine (numeral_of l k (numLen (l.drop k)) x y z false w hle' hl hml PA (.inr ⟨hz, rfl⟩)).mono fun e w' ⟨he, hb⟩ => ⟨x, y, by rw [he, HF']; rfl, fun a b r h => ?_, hb⟩
    rw [HF'] at h; cases h
end Go.Proofs.YtcgedpfolloinaaGreat

namespace Go.Proofs.YtcgedpfolloinaaGreat
open Go.RowKit

/-- a head, with its attributes. -/
def headP (l : List UInt8) : Option (Hd × List UInt8) :=
  match beginP l with
  | none => none
  | some (h, r) => if h.k = 0 then (optA r).map fun x => ({ h with ats := x.1 }, x.2) else some (h, r)
theorem treeP_head (F : List UInt8 → Option (Fo × List UInt8)) (l : List UInt8) :
    treeP F l = (headP l).bind fun y => if y.1.k = 0 then (optK F y.2).map fun x => ((y.1, x.1), x.2) else some ((y.1, .nil), y.2) := by
  unfold treeP headP
  cases beginP l with
  | none => rfl
  | some x =>
    obtain ⟨h, r⟩ := x
    simp only
    by_cases h0 : h.k = 0
    · rw [if_pos h0, if_pos h0]
      cases optA r with
      | none => rfl
      | some y => simp [h0]
    · rw [if_neg h0, if_neg h0]
      simp [h0]
theorem headP_quo {c : UInt8} {t : List UInt8} (h : c.toNat = 34) : headP (c :: t) = (quoP (c :: t)).map fun x => (⟨2, [], [], 0, 0, x.1⟩, x.2) := by
  unfold headP
  rw [show beginP (c :: t) = (quoP (c :: t)).map fun x => (⟨2, [], [], 0, 0, x.1⟩, x.2) by unfold beginP; simp [h]]
  cases quoP (c :: t) with
  | none => rfl
  | some x => rfl
theorem figP_not {c : UInt8} {t : List UInt8} (h : ¬ (c.toNat = 45 ∨ digitB c = true)) : figP (c :: t) = none := by
  cases hf : figP (c :: t) with
  | none => rfl
  | some x =>
    obtain ⟨⟨n, d⟩, r⟩ := x
    have h1 := (figP_text hf).1
    obtain ⟨c', t', h2, h3⟩ := told_head n d
    rw [h2] at h1
    simp only [List.cons_append, List.cons.injEq] at h1
    rw [← h1.1] at h3
    exact absurd h3 h
theorem wordLen_not {c : UInt8} {t : List UInt8} (h : letterB c = false) : wordLen (c :: t) = 0 := by
  by_cases h0 : wordLen (c :: t) = 0
  · exact h0
  · exact (by have := wordLen_at (l := c :: t) (k := 0) (fun j hj => absurd hj (by omega)) (by simp) (.inr (by simp [nameAt, h])); exact this)
theorem headP_fig {c : UInt8} {t : List UInt8} (h : c.toNat ≠ 34) (hl : letterB c = false) : headP (c :: t) = (figP (c :: t)).map fun x => (⟨1, [], [], x.1.1, x.1.2, []⟩, x.2) := by
  unfold headP
  by_cases hd : c.toNat = 45 ∨ digitB c = true
  · rw [show beginP (c :: t) = (figP (c :: t)).map fun x => (⟨1, [], [], x.1.1, x.1.2, []⟩, x.2) by unfold beginP; simp only [if_neg h, if_pos hd]]
    cases figP (c :: t) with
    | none => rfl
    | some x => rfl
  · rw [show beginP (c :: t) = none by unfold beginP; simp only [if_neg h, if_neg hd, if_pos (wordLen_not hl)], figP_not hd]
    rfl
theorem letter_not {c : UInt8} (h : letterB c = true) : c.toNat ≠ 34 ∧ ¬ (c.toNat = 45 ∨ digitB c = true) := by
  simp only [letterB, decide_eq_true_eq] at h
  refine ⟨by omega, ?_⟩
  simp only [digitB, decide_eq_true_eq]
  omega
theorem headP_word {c : UInt8} {t : List UInt8} (hl : letterB c = true) (h0 : wordLen (c :: t) ≠ 0) : headP (c :: t) = (optA ((c :: t).drop (wordLen (c :: t)))).map fun x => (⟨0, (c :: t).take (wordLen (c :: t)), x.1, 0, 0, []⟩, x.2) := by
  unfold headP
  rw [show beginP (c :: t) = some (⟨0, (c :: t).take (wordLen (c :: t)), [], 0, 0, []⟩, (c :: t).drop (wordLen (c :: t))) by unfold beginP; simp only [if_neg (letter_not hl).1, if_neg (letter_not hl).2, if_neg h0]]
  rfl
theorem wordLen_pos {c : UInt8} {t : List UInt8} (h : letterB c = true) : wordLen (c :: t) ≠ 0 := by
  intro h0
  have hlt : (List.range (c :: t).length).findIdx (fun i => !nameAt (c :: t) i) < (List.range (c :: t).length).length := by
    show wordLen (c :: t) < _
    rw [h0]; simp
  have h1 := List.findIdx_getElem (w := hlt)
  simp only [List.getElem_range] at h1
  rw [show (List.range (c :: t).length).findIdx (fun i => !nameAt (c :: t) i) = 0 from h0] at h1
  simp [nameAt, h] at h1
end Go.Proofs.YtcgedpfolloinaaGreat

namespace Go.Proofs.YtcgedpfolloinaaGreat
open Go.RowKit

theorem set6_blk {W : World} {R : Nat} {T : TypeId} {a0 a1 a2 a3 a4 a5 : Value} (b0 b1 b2 b3 b4 b5 : Value) (h : W.heap[R]? = some (.cells #[a0, a1, a2, a3, a4, a5] T (0, 0))) :
    ((((((W.setCell ⟨R, 0, none⟩ b0).setCell ⟨R, 1, none⟩ b1).setCell ⟨R, 2, none⟩ b2).setCell ⟨R, 3, none⟩ b3).setCell ⟨R, 4, none⟩ b4).setCell ⟨R, 5, none⟩ b5).heap[R]? = some (.cells #[b0, b1, b2, b3, b4, b5] T (0, 0)) := by
  have h0 : (W.setCell ⟨R, 0, none⟩ b0).heap[R]? = some (.cells #[b0, a1, a2, a3, a4, a5] T (0, 0)) := set_block h
  have h1 : ((W.setCell ⟨R, 0, none⟩ b0).setCell ⟨R, 1, none⟩ b1).heap[R]? = some (.cells #[b0, b1, a2, a3, a4, a5] T (0, 0)) := set_block h0
  have h2 : (((W.setCell ⟨R, 0, none⟩ b0).setCell ⟨R, 1, none⟩ b1).setCell ⟨R, 2, none⟩ b2).heap[R]? = some (.cells #[b0, b1, b2, a3, a4, a5] T (0, 0)) := set_block h1
  have h3 : ((((W.setCell ⟨R, 0, none⟩ b0).setCell ⟨R, 1, none⟩ b1).setCell ⟨R, 2, none⟩ b2).setCell ⟨R, 3, none⟩ b3).heap[R]? = some (.cells #[b0, b1, b2, b3, a4, a5] T (0, 0)) := set_block h2
  have h4 : (((((W.setCell ⟨R, 0, none⟩ b0).setCell ⟨R, 1, none⟩ b1).setCell ⟨R, 2, none⟩ b2).setCell ⟨R, 3, none⟩ b3).setCell ⟨R, 4, none⟩ b4).heap[R]? = some (.cells #[b0, b1, b2, b3, b4, a5] T (0, 0)) := set_block h3
  have h5 : ((((((W.setCell ⟨R, 0, none⟩ b0).setCell ⟨R, 1, none⟩ b1).setCell ⟨R, 2, none⟩ b2).setCell ⟨R, 3, none⟩ b3).setCell ⟨R, 4, none⟩ b4).setCell ⟨R, 5, none⟩ b5).heap[R]? = some (.cells #[b0, b1, b2, b3, b4, b5] T (0, 0)) := set_block h4
  exact h5
theorem set6_below {W w : World} {R B : Nat} (b0 b1 b2 b3 b4 b5 : Value) (h : Below B w W) (hR : B ≤ R) : Below B w ((((((W.setCell ⟨R, 0, none⟩ b0).setCell ⟨R, 1, none⟩ b1).setCell ⟨R, 2, none⟩ b2).setCell ⟨R, 3, none⟩ b3).setCell ⟨R, 4, none⟩ b4).setCell ⟨R, 5, none⟩ b5) :=
  (((((h.setCell hR _).setCell hR _).setCell hR _).setCell hR _).setCell hR _).setCell hR _
theorem set6_keeps {B : Nat} {R : Nat} (W : World) (b0 b1 b2 b3 b4 b5 : Value) (h : R < B) :
    Keeps B W ((((((W.setCell ⟨R, 0, none⟩ b0).setCell ⟨R, 1, none⟩ b1).setCell ⟨R, 2, none⟩ b2).setCell ⟨R, 3, none⟩ b3).setCell ⟨R, 4, none⟩ b4).setCell ⟨R, 5, none⟩ b5) :=
  (((((Keeps.setCell W h _ _).trans (.setCell _ h _ _)).trans (.setCell _ h _ _)).trans (.setCell _ h _ _)).trans (.setCell _ h _ _)).trans (.setCell _ h _ _)

/-- what ReadHead gives. -/
def HdRes (w : World) (l : List UInt8) (o : Option (Hd × List UInt8)) (e : Ending) (w' : World) : Prop :=
  ∃ h aa ca p, e = .returned (.tuple #[hdV h aa ca, .int .i64 p, .bool o.isSome]) ∧ (∀ x r, o = some (x, r) → h = x ∧ p = ((l.length - r.length : Nat) : Int)) ∧ AttrsF w.heap.size w' (.slice aa h.ats.length ca) h.ats ∧ Below w.heap.size w w'
theorem HdRes.no {w : World} {l : List UInt8} {e : Ending} {w' : World} (h : Hd) (p : Int) (hh : h.ats = []) (he : e = .returned (.tuple #[.agg #[.int .i64 h.k, .string ⟨h.l.toArray⟩, .slice none 0 0, .int .i64 h.n, .int .i64 h.d, .string ⟨h.x.toArray⟩], .int .i64 p, .bool false])) (hb : Below w.heap.size w w') : HdRes w l none e w' :=
  ⟨h, none, 0, p, by rw [he]; unfold hdV; rw [hh]; rfl, fun x r hx => (by cases hx), .inl ⟨_, _, by rw [hh]; rfl, hh⟩, hb⟩
theorem HdRes.yes {w : World} {l r : List UInt8} {e : Ending} {w' : World} (h : Hd) (hh : h.ats = []) (he : e = .returned (.tuple #[.agg #[.int .i64 h.k, .string ⟨h.l.toArray⟩, .slice none 0 0, .int .i64 h.n, .int .i64 h.d, .string ⟨h.x.toArray⟩], .int .i64 ((l.length - r.length : Nat) : Int), .bool true])) (hb : Below w.heap.size w w') : HdRes w l (some (h, r)) e w' :=
  ⟨h, none, 0, _, by rw [he]; unfold hdV; rw [hh]; rfl, fun x r' hx => (by cases hx; exact ⟨rfl, rfl⟩), .inl ⟨_, _, by rw [hh]; rfl, hh⟩, hb⟩

set_option maxRecDepth 100000 in
set_option maxHeartbeats 4000000 in
theorem rhead_nil (l : List UInt8) (k : Nat) (w : World) (hk : k = l.length) :
    Calls Tryz.prog 153 #[.string ⟨l.toArray⟩, .int .i64 k] w (HdRes w l (headP (l.drop k))) := by
  have d0 : decide ((l.length : Int) ≤ (k : Int)) = true := by simp; omega
  have HO := Lib.hid (show headP (l.drop k) = none by rw [hk, List.drop_length]; rfl)
  generalize headP (l.drop k) = o at *
  have hge : l.length ≤ k := by omega
  clear hk
  go_enter Tryz.func153, Tryz.ntmps153
  go_upto_region 1 with fail
  have kz : (w.alloc (.cells #[.int .i64 0, .string ⟨#[]⟩, .slice none 0 0, .int .i64 0, .int .i64 0, .string ⟨#[]⟩] 27)).heap[w.heap.size]? = _ := World.alloc_heap_new w (.cells #[.int .i64 0, .string ⟨#[]⟩, .slice none 0 0, .int .i64 0, .int .i64 0, .string ⟨#[]⟩] 27)
  have B1 : Below w.heap.size w (w.alloc (.cells #[.int .i64 0, .string ⟨#[]⟩, .slice none 0 0, .int .i64 0, .int .i64 0, .string ⟨#[]⟩] 27)) := by ((repeat' (first | exact Below.refl _ _ | assumption | refine Below.setCell ?_ ?_ _ | refine bdrewN ?_ _ | refine Below.drew ?_ | refine Below.alloc ?_ ?_ _ | refine bbehind ?_ (by assumption) ?_)); all_goals first | (simp; done) | (simp; omega) | omega)
  generalize w.alloc (.cells #[.int .i64 0, .string ⟨#[]⟩, .slice none 0 0, .int .i64 0, .int .i64 0, .string ⟨#[]⟩] 27) = W at *
  have z0 : W.cell? ⟨w.heap.size, 0, none⟩ = some (.int .i64 0) := cell_of_block kz rfl
  have zf0 := frozen_of_block (o := 0) kz
  have z1 : W.cell? ⟨w.heap.size, 1, none⟩ = some (.string ⟨#[]⟩) := cell_of_block kz rfl
  have zf1 := frozen_of_block (o := 1) kz
  have z2 : W.cell? ⟨w.heap.size, 2, none⟩ = some (.slice none 0 0) := cell_of_block kz rfl
  have zf2 := frozen_of_block (o := 2) kz
  have z3 : W.cell? ⟨w.heap.size, 3, none⟩ = some (.int .i64 0) := cell_of_block kz rfl
  have zf3 := frozen_of_block (o := 3) kz
  have z4 : W.cell? ⟨w.heap.size, 4, none⟩ = some (.int .i64 0) := cell_of_block kz rfl
  have zf4 := frozen_of_block (o := 4) kz
  have z5 : W.cell? ⟨w.heap.size, 5, none⟩ = some (.string ⟨#[]⟩) := cell_of_block kz rfl
  have zf5 := frozen_of_block (o := 5) kz

  go_wp2_with fail
  have hfin := set6_blk (.int .i64 0) (.string ⟨#[]⟩) (.slice none 0 0) (.int .i64 0) (.int .i64 0) (.string ⟨#[]⟩) kz
  have hbel := set6_below (R := w.heap.size) (.int .i64 0) (.string ⟨#[]⟩) (.slice none 0 0) (.int .i64 0) (.int .i64 0) (.string ⟨#[]⟩) B1 (by omega)
  have hkee := set6_keeps (B := w.heap.size + 1) (R := w.heap.size) W (.int .i64 0) (.string ⟨#[]⟩) (.slice none 0 0) (.int .i64 0) (.int .i64 0) (.string ⟨#[]⟩) (by omega)
  generalize ((((((W).setCell ⟨w.heap.size, 0, none⟩ (.int .i64 0)).setCell ⟨w.heap.size, 1, none⟩ (.string ⟨#[]⟩)).setCell ⟨w.heap.size, 2, none⟩ (.slice none 0 0)).setCell ⟨w.heap.size, 3, none⟩ (.int .i64 0)).setCell ⟨w.heap.size, 4, none⟩ (.int .i64 0)).setCell ⟨w.heap.size, 5, none⟩ (.string ⟨#[]⟩) = Wf at hfin hbel hkee ⊢
  have u0 : Wf.cell? ⟨w.heap.size, 0, none⟩ = some (.int .i64 0) := cell_of_block hfin rfl
  have u1 : Wf.cell? ⟨w.heap.size, 1, none⟩ = some (.string ⟨#[]⟩) := cell_of_block hfin rfl
  have u2 : Wf.cell? ⟨w.heap.size, 2, none⟩ = some (.slice none 0 0) := cell_of_block hfin rfl
  have u3 : Wf.cell? ⟨w.heap.size, 3, none⟩ = some (.int .i64 0) := cell_of_block hfin rfl
  have u4 : Wf.cell? ⟨w.heap.size, 4, none⟩ = some (.int .i64 0) := cell_of_block hfin rfl
  have u5 : Wf.cell? ⟨w.heap.size, 5, none⟩ = some (.string ⟨#[]⟩) := cell_of_block hfin rfl
  refine bodyPost_ret (v := .tuple #[.agg #[.int .i64 0, .string ⟨#[]⟩, .slice none 0 0, .int .i64 0, .int .i64 0, .string ⟨#[]⟩], .int .i64 0, .bool false]) (by simp [results, Tryz.results153, go_sem, u0, u1, u2, u3, u4, u5]) rfl ?_
  rw [HO.out]
  exact HdRes.no zeroHd 0 rfl rfl hbel

set_option maxRecDepth 100000 in
set_option maxHeartbeats 4000000 in
theorem rhead_quo (l : List UInt8) (k : Nat) (c : UInt8) (w : World) (hk : k < l.length) (hl : l.length ≤ 90000) (hc : l[k] = c) (h34 : c.toNat = 34) :
    Calls Tryz.prog 153 #[.string ⟨l.toArray⟩, .int .i64 k] w (HdRes w l (headP (l.drop k))) := by
  have HD := drop_at hk hc
  have HO := Lib.hid (show headP (l.drop k) = (quoP (l.drop k)).map fun x => (⟨2, [], [], 0, 0, x.1⟩, x.2) by rw [HD]; exact headP_quo h34)
  have U := Lib.hid (fun w => unquoted_any l k w (by omega) (by omega))
  have d0 : decide ((l.length : Int) ≤ (k : Int)) = false := by simp; omega
  have b1 : ((c.toNat : Int) == 34) = true := by simp; omega
  have b1' : (c.toNat == 34) = true := by simpa using h34
  have HX0 := getD_at (d := 0) hk hc
  generalize headP (l.drop k) = o at *
  clear HD h34
  cases hq : quoP (l.drop k) with
  | none =>
    have HX := Lib.hid (HO.out.trans (by rw [hq] <;> rfl))
    have UU := Lib.hid (show ∀ w, Calls Tryz.prog 167 #[.string ⟨l.toArray⟩, .int .i64 k] w fun e w' => e = .returned (.tuple #[.string ⟨#[]⟩, .int .i64 0, .bool false]) ∧ Below w.heap.size w w' from fun w => by have := U.out w; rw [hq] at this; exact this)

    clear hq U HO
    go_enter Tryz.func153, Tryz.ntmps153
    go_wp2_with fail
    refine (UU.out _).mono ?_
    rintro e w1 ⟨rfl, hb1⟩
    have hs1 := hb1.size
    simp at hs1
    have kz := (hb1.block w.heap.size (by simp)).trans (World.alloc_heap_new w (.cells #[.int .i64 0, .string ⟨#[]⟩, .slice none 0 0, .int .i64 0, .int .i64 0, .string ⟨#[]⟩] 27))
    have B1 : Below w.heap.size w w1 := (show Below w.heap.size w (w.alloc (.cells #[.int .i64 0, .string ⟨#[]⟩, .slice none 0 0, .int .i64 0, .int .i64 0, .string ⟨#[]⟩] 27)) from by ((repeat' (first | exact Below.refl _ _ | assumption | refine Below.setCell ?_ ?_ _ | refine bdrewN ?_ _ | refine Below.drew ?_ | refine Below.alloc ?_ ?_ _ | refine bbehind ?_ (by assumption) ?_)); all_goals first | (simp; done) | (simp; omega) | omega)).trans (hb1.mono (by simp))
    have z0 : w1.cell? ⟨w.heap.size, 0, none⟩ = some (.int .i64 0) := cell_of_block kz rfl
    have zf0 := frozen_of_block (o := 0) kz
    have z1 : w1.cell? ⟨w.heap.size, 1, none⟩ = some (.string ⟨#[]⟩) := cell_of_block kz rfl
    have zf1 := frozen_of_block (o := 1) kz
    have z2 : w1.cell? ⟨w.heap.size, 2, none⟩ = some (.slice none 0 0) := cell_of_block kz rfl
    have zf2 := frozen_of_block (o := 2) kz
    have z3 : w1.cell? ⟨w.heap.size, 3, none⟩ = some (.int .i64 0) := cell_of_block kz rfl
    have zf3 := frozen_of_block (o := 3) kz
    have z4 : w1.cell? ⟨w.heap.size, 4, none⟩ = some (.int .i64 0) := cell_of_block kz rfl
    have zf4 := frozen_of_block (o := 4) kz
    have z5 : w1.cell? ⟨w.heap.size, 5, none⟩ = some (.string ⟨#[]⟩) := cell_of_block kz rfl
    have zf5 := frozen_of_block (o := 5) kz

    go_wp2_with fail
    have hfin := set6_blk (.int .i64 2) (.string ⟨#[]⟩) (.slice none 0 0) (.int .i64 0) (.int .i64 0) (.string ⟨#[]⟩) kz
    have hbel := set6_below (R := w.heap.size) (.int .i64 2) (.string ⟨#[]⟩) (.slice none 0 0) (.int .i64 0) (.int .i64 0) (.string ⟨#[]⟩) B1 (by omega)
    have hkee := set6_keeps (B := w.heap.size + 1) (R := w.heap.size) w1 (.int .i64 2) (.string ⟨#[]⟩) (.slice none 0 0) (.int .i64 0) (.int .i64 0) (.string ⟨#[]⟩) (by omega)
    generalize ((((((w1).setCell ⟨w.heap.size, 0, none⟩ (.int .i64 2)).setCell ⟨w.heap.size, 1, none⟩ (.string ⟨#[]⟩)).setCell ⟨w.heap.size, 2, none⟩ (.slice none 0 0)).setCell ⟨w.heap.size, 3, none⟩ (.int .i64 0)).setCell ⟨w.heap.size, 4, none⟩ (.int .i64 0)).setCell ⟨w.heap.size, 5, none⟩ (.string ⟨#[]⟩) = Wf at hfin hbel hkee ⊢
    have u0 : Wf.cell? ⟨w.heap.size, 0, none⟩ = some (.int .i64 2) := cell_of_block hfin rfl
    have u1 : Wf.cell? ⟨w.heap.size, 1, none⟩ = some (.string ⟨#[]⟩) := cell_of_block hfin rfl
    have u2 : Wf.cell? ⟨w.heap.size, 2, none⟩ = some (.slice none 0 0) := cell_of_block hfin rfl
    have u3 : Wf.cell? ⟨w.heap.size, 3, none⟩ = some (.int .i64 0) := cell_of_block hfin rfl
    have u4 : Wf.cell? ⟨w.heap.size, 4, none⟩ = some (.int .i64 0) := cell_of_block hfin rfl
    have u5 : Wf.cell? ⟨w.heap.size, 5, none⟩ = some (.string ⟨#[]⟩) := cell_of_block hfin rfl
    refine bodyPost_ret (v := .tuple #[.agg #[.int .i64 2, .string ⟨#[]⟩, .slice none 0 0, .int .i64 0, .int .i64 0, .string ⟨#[]⟩], .int .i64 0, .bool false]) (by simp [results, Tryz.results153, go_sem, u0, u1, u2, u3, u4, u5]) rfl ?_
    rw [HX.out]
    exact HdRes.no ⟨2, [], [], 0, 0, []⟩ 0 rfl rfl hbel
  | some x =>
    obtain ⟨t, r⟩ := x
    have HX := Lib.hid (HO.out.trans (by rw [hq] <;> rfl))
    have UU := Lib.hid (show ∀ w, Calls Tryz.prog 167 #[.string ⟨l.toArray⟩, .int .i64 k] w fun e w' => e = .returned (.tuple #[.string ⟨t.toArray⟩, .int .i64 ((l.length - r.length : Nat) : Int), .bool true]) ∧ Below w.heap.size w w' from fun w => by have := U.out w; rw [hq] at this; exact this)

    clear hq U HO
    go_enter Tryz.func153, Tryz.ntmps153
    go_wp2_with fail
    refine (UU.out _).mono ?_
    rintro e w1 ⟨rfl, hb1⟩
    have hs1 := hb1.size
    simp at hs1
    have kz := (hb1.block w.heap.size (by simp)).trans (World.alloc_heap_new w (.cells #[.int .i64 0, .string ⟨#[]⟩, .slice none 0 0, .int .i64 0, .int .i64 0, .string ⟨#[]⟩] 27))
    have B1 : Below w.heap.size w w1 := (show Below w.heap.size w (w.alloc (.cells #[.int .i64 0, .string ⟨#[]⟩, .slice none 0 0, .int .i64 0, .int .i64 0, .string ⟨#[]⟩] 27)) from by ((repeat' (first | exact Below.refl _ _ | assumption | refine Below.setCell ?_ ?_ _ | refine bdrewN ?_ _ | refine Below.drew ?_ | refine Below.alloc ?_ ?_ _ | refine bbehind ?_ (by assumption) ?_)); all_goals first | (simp; done) | (simp; omega) | omega)).trans (hb1.mono (by simp))
    have z0 : w1.cell? ⟨w.heap.size, 0, none⟩ = some (.int .i64 0) := cell_of_block kz rfl
    have zf0 := frozen_of_block (o := 0) kz
    have z1 : w1.cell? ⟨w.heap.size, 1, none⟩ = some (.string ⟨#[]⟩) := cell_of_block kz rfl
    have zf1 := frozen_of_block (o := 1) kz
    have z2 : w1.cell? ⟨w.heap.size, 2, none⟩ = some (.slice none 0 0) := cell_of_block kz rfl
    have zf2 := frozen_of_block (o := 2) kz
    have z3 : w1.cell? ⟨w.heap.size, 3, none⟩ = some (.int .i64 0) := cell_of_block kz rfl
    have zf3 := frozen_of_block (o := 3) kz
    have z4 : w1.cell? ⟨w.heap.size, 4, none⟩ = some (.int .i64 0) := cell_of_block kz rfl
    have zf4 := frozen_of_block (o := 4) kz
    have z5 : w1.cell? ⟨w.heap.size, 5, none⟩ = some (.string ⟨#[]⟩) := cell_of_block kz rfl
    have zf5 := frozen_of_block (o := 5) kz

    go_wp2_with fail
    have hfin := set6_blk (.int .i64 2) (.string ⟨#[]⟩) (.slice none 0 0) (.int .i64 0) (.int .i64 0) (.string ⟨t.toArray⟩) kz
    have hbel := set6_below (R := w.heap.size) (.int .i64 2) (.string ⟨#[]⟩) (.slice none 0 0) (.int .i64 0) (.int .i64 0) (.string ⟨t.toArray⟩) B1 (by omega)
    have hkee := set6_keeps (B := w.heap.size + 1) (R := w.heap.size) w1 (.int .i64 2) (.string ⟨#[]⟩) (.slice none 0 0) (.int .i64 0) (.int .i64 0) (.string ⟨t.toArray⟩) (by omega)
    generalize ((((((w1).setCell ⟨w.heap.size, 0, none⟩ (.int .i64 2)).setCell ⟨w.heap.size, 1, none⟩ (.string ⟨#[]⟩)).setCell ⟨w.heap.size, 2, none⟩ (.slice none 0 0)).setCell ⟨w.heap.size, 3, none⟩ (.int .i64 0)).setCell ⟨w.heap.size, 4, none⟩ (.int .i64 0)).setCell ⟨w.heap.size, 5, none⟩ (.string ⟨t.toArray⟩) = Wf at hfin hbel hkee ⊢
    have u0 : Wf.cell? ⟨w.heap.size, 0, none⟩ = some (.int .i64 2) := cell_of_block hfin rfl
    have u1 : Wf.cell? ⟨w.heap.size, 1, none⟩ = some (.string ⟨#[]⟩) := cell_of_block hfin rfl
    have u2 : Wf.cell? ⟨w.heap.size, 2, none⟩ = some (.slice none 0 0) := cell_of_block hfin rfl
    have u3 : Wf.cell? ⟨w.heap.size, 3, none⟩ = some (.int .i64 0) := cell_of_block hfin rfl
    have u4 : Wf.cell? ⟨w.heap.size, 4, none⟩ = some (.int .i64 0) := cell_of_block hfin rfl
    have u5 : Wf.cell? ⟨w.heap.size, 5, none⟩ = some (.string ⟨t.toArray⟩) := cell_of_block hfin rfl
    refine bodyPost_ret (v := .tuple #[.agg #[.int .i64 2, .string ⟨#[]⟩, .slice none 0 0, .int .i64 0, .int .i64 0, .string ⟨t.toArray⟩], .int .i64 ((l.length - r.length : Nat) : Int), .bool true]) (by simp [results, Tryz.results153, go_sem, u0, u1, u2, u3, u4, u5]) rfl ?_
    rw [HX.out]
    exact HdRes.yes ⟨2, [], [], 0, 0, t⟩ rfl rfl hbel

set_option maxRecDepth 100000 in
set_option maxHeartbeats 4000000 in
theorem rhead_fig (l : List UInt8) (k : Nat) (c : UInt8) (w : World) (hk : k < l.length) (hl : l.length ≤ 90000) (hc : l[k] = c) (h34 : c.toNat ≠ 34) (hlet : letterB c = false) :
    Calls Tryz.prog 153 #[.string ⟨l.toArray⟩, .int .i64 k] w (HdRes w l (headP (l.drop k))) := by
  have HD := drop_at hk hc
  have HO := Lib.hid (show headP (l.drop k) = (figP (l.drop k)).map fun x => (⟨1, [], [], x.1.1, x.1.2, []⟩, x.2) by rw [HD]; exact headP_fig h34 hlet)
  have U := Lib.hid (fun w => numeral_any l k w (by omega) (by omega))
  have FL := Lib.hid (show ∀ x r, figP (l.drop k) = some (x, r) → l.length - r.length = k + numLen (l.drop k) from fun x r hx => by
    have hle := numLen_le (l.drop k)
    unfold figP at hx
    simp only at hx
    split at hx
    · have := (Prod.mk.inj (Option.some.inj hx)).2
      rw [← this]
      simp at hle ⊢
      omega
    · cases hx)
  have d0 : decide ((l.length : Int) ≤ (k : Int)) = false := by simp; omega
  have b1 : ((c.toNat : Int) == 34) = false := by simp; omega
  have b1' : (c.toNat == 34) = false := by simpa using h34
  have HX0 := getD_at (d := 0) hk hc
  have L := Lib.hid (letter_any c)
  rw [hlet] at L
  generalize headP (l.drop k) = o at *
  clear HD h34 hlet
  go_enter Tryz.func153, Tryz.ntmps153
  go_wp2_with fail
  refine (L.out _).mono ?_; rintro e w' ⟨rfl, rfl⟩
  go_wp2_with fail
  refine (U.out _).mono ?_
  rintro e w1 ⟨n, d, rfl, hnd, hb1⟩
  have hs1 := hb1.size
  simp at hs1
  have kz0 := (hb1.block w.heap.size (by simp)).trans (World.alloc_heap_new w (.cells #[.int .i64 0, .string ⟨#[]⟩, .slice none 0 0, .int .i64 0, .int .i64 0, .string ⟨#[]⟩] 27))
  have B10 : Below w.heap.size w w1 := (show Below w.heap.size w (w.alloc (.cells #[.int .i64 0, .string ⟨#[]⟩, .slice none 0 0, .int .i64 0, .int .i64 0, .string ⟨#[]⟩] 27)) from by ((repeat' (first | exact Below.refl _ _ | assumption | refine Below.setCell ?_ ?_ _ | refine bdrewN ?_ _ | refine Below.drew ?_ | refine Below.alloc ?_ ?_ _ | refine bbehind ?_ (by assumption) ?_)); all_goals first | (simp; done) | (simp; omega) | omega)).trans (hb1.mono (by simp))
  have HND := Lib.hid hnd
  clear hb1 hnd
  go_upto_region 8 with fail
  have kz := (Below.heap_alloc w1 (.cells #[.int .i64 n, .int .i64 d] 25) _ (by omega)).trans kz0
  have kn := World.alloc_heap_new w1 (.cells #[.int .i64 n, .int .i64 d] 25)
  have B1 : Below w.heap.size w (w1.alloc (.cells #[.int .i64 n, .int .i64 d] 25)) := B10.alloc B10.size _
  have hsz : w1.heap.size < (w1.alloc (.cells #[.int .i64 n, .int .i64 d] 25)).heap.size := by simp
  generalize w1.alloc (.cells #[.int .i64 n, .int .i64 d] 25) = W at *
  have m0 : W.cell? ⟨w1.heap.size, 0, none⟩ = some (.int .i64 n) := cell_of_block kn rfl
  have m1 : W.cell? ⟨w1.heap.size, 1, none⟩ = some (.int .i64 d) := cell_of_block kn rfl
  have z0 : W.cell? ⟨w.heap.size, 0, none⟩ = some (.int .i64 0) := cell_of_block kz rfl
  have zf0 := frozen_of_block (o := 0) kz
  have z1 : W.cell? ⟨w.heap.size, 1, none⟩ = some (.string ⟨#[]⟩) := cell_of_block kz rfl
  have zf1 := frozen_of_block (o := 1) kz
  have z2 : W.cell? ⟨w.heap.size, 2, none⟩ = some (.slice none 0 0) := cell_of_block kz rfl
  have zf2 := frozen_of_block (o := 2) kz
  have z3 : W.cell? ⟨w.heap.size, 3, none⟩ = some (.int .i64 0) := cell_of_block kz rfl
  have zf3 := frozen_of_block (o := 3) kz
  have z4 : W.cell? ⟨w.heap.size, 4, none⟩ = some (.int .i64 0) := cell_of_block kz rfl
  have zf4 := frozen_of_block (o := 4) kz
  have z5 : W.cell? ⟨w.heap.size, 5, none⟩ = some (.string ⟨#[]⟩) := cell_of_block kz rfl
  have zf5 := frozen_of_block (o := 5) kz

  clear kz0 B10
  go_wp2_with fail
  have hfin := set6_blk (.int .i64 1) (.string ⟨#[]⟩) (.slice none 0 0) (.int .i64 n) (.int .i64 d) (.string ⟨#[]⟩) kz
  have hbel := set6_below (R := w.heap.size) (.int .i64 1) (.string ⟨#[]⟩) (.slice none 0 0) (.int .i64 n) (.int .i64 d) (.string ⟨#[]⟩) B1 (by omega)
  have hkee := set6_keeps (B := w.heap.size + 1) (R := w.heap.size) W (.int .i64 1) (.string ⟨#[]⟩) (.slice none 0 0) (.int .i64 n) (.int .i64 d) (.string ⟨#[]⟩) (by omega)
  generalize ((((((W).setCell ⟨w.heap.size, 0, none⟩ (.int .i64 1)).setCell ⟨w.heap.size, 1, none⟩ (.string ⟨#[]⟩)).setCell ⟨w.heap.size, 2, none⟩ (.slice none 0 0)).setCell ⟨w.heap.size, 3, none⟩ (.int .i64 n)).setCell ⟨w.heap.size, 4, none⟩ (.int .i64 d)).setCell ⟨w.heap.size, 5, none⟩ (.string ⟨#[]⟩) = Wf at hfin hbel hkee ⊢
  have u0 : Wf.cell? ⟨w.heap.size, 0, none⟩ = some (.int .i64 1) := cell_of_block hfin rfl
  have u1 : Wf.cell? ⟨w.heap.size, 1, none⟩ = some (.string ⟨#[]⟩) := cell_of_block hfin rfl
  have u2 : Wf.cell? ⟨w.heap.size, 2, none⟩ = some (.slice none 0 0) := cell_of_block hfin rfl
  have u3 : Wf.cell? ⟨w.heap.size, 3, none⟩ = some (.int .i64 n) := cell_of_block hfin rfl
  have u4 : Wf.cell? ⟨w.heap.size, 4, none⟩ = some (.int .i64 d) := cell_of_block hfin rfl
  have u5 : Wf.cell? ⟨w.heap.size, 5, none⟩ = some (.string ⟨#[]⟩) := cell_of_block hfin rfl
  refine bodyPost_ret (v := .tuple #[.agg #[.int .i64 1, .string ⟨#[]⟩, .slice none 0 0, .int .i64 n, .int .i64 d, .string ⟨#[]⟩], .int .i64 ((k + numLen (l.drop k) : Nat) : Int), .bool (figP (l.drop k)).isSome]) (by simp [results, Tryz.results153, go_sem, u0, u1, u2, u3, u4, u5]) rfl ?_

  cases hf : figP (l.drop k) with
  | none =>
    rw [HO.out.trans (by rw [hf] <;> rfl)]
    exact HdRes.no ⟨1, [], [], n, d, []⟩ _ rfl rfl hbel
  | some x =>
    obtain ⟨⟨x, y⟩, r⟩ := x
    obtain ⟨rfl, rfl⟩ := HND.out _ _ _ hf
    rw [HO.out.trans (by rw [hf] <;> rfl)]
    exact HdRes.yes ⟨1, [], [], n, d, []⟩ rfl (by rw [FL.out _ _ hf] <;> rfl) hbel
end Go.Proofs.YtcgedpfolloinaaGreat

namespace Go.Proofs.YtcgedpfolloinaaGreat
open Go.RowKit

theorem suffix_drop {l p r : List UInt8} {q : Nat} (h : l.drop q = p ++ r) (hq : q ≤ l.length) : r = l.drop (l.length - r.length) ∧ l.length - r.length = q + p.length ∧ r.length ≤ l.length := by
  have h1 := congrArg List.length h
  simp at h1
  have h2 : l.length - r.length = q + p.length := by omega
  refine ⟨?_, h2, by omega⟩
  rw [h2, ← List.drop_drop, h, List.drop_left]
theorem attrP_suffix {l r : List UInt8} {a : List UInt8 × List UInt8} {q : Nat} (h : attrP (l.drop q) = some (a, r)) (hq : q ≤ l.length) : r = l.drop (l.length - r.length) ∧ q + a.1.length + 3 ≤ l.length - r.length ∧ r.length ≤ l.length := by
  have h1 := attrP_text h
  rw [show a.1 ++ 61 :: (quoQ a.2 ++ r) = (a.1 ++ 61 :: quoQ a.2) ++ r by simp] at h1
  obtain ⟨h2, h3, h4⟩ := suffix_drop h1 hq
  have h5 := attrP_len h
  have h6 := congrArg List.length h1
  simp at h6 h5 h3
  refine ⟨h2, ?_, h4⟩
  rw [h3]
  have : 2 ≤ (quoQ a.2).length := by unfold quoQ; simp
  omega
/-- what is left to read of attributes, at place p, when sa have been read. -/
def LoopP (l : List UInt8) (o : Option (List (List UInt8 × List UInt8) × List UInt8)) (sa : List (List UInt8 × List UInt8)) (p : Nat) : Prop :=
  (sa = [] ∧ (l.drop p).head? = some 40 ∧ o = (attributesP (l.drop (p + 1))).bind fun x => expP 41 x.1 x.2) ∨
  (sa ≠ [] ∧ ∃ n, (l.drop p).length ≤ n ∧ o = ((attrsP n (l.drop p)).map fun x => (sa ++ x.1, x.2)).bind fun x => expP 41 x.1 x.2)
theorem head_drop {l : List UInt8} {p : Nat} {c : UInt8} (h : (l.drop p).head? = some c) : ∃ hp : p < l.length, l[p] = c := by
  rw [List.head?_drop] at h
  exact List.getElem?_eq_some_iff.1 h
theorem LoopP.none {l : List UInt8} {o : Option (List (List UInt8 × List UInt8) × List UInt8)} {sa : List (List UInt8 × List UInt8)} {p : Nat} (h : LoopP l o sa p) (hb : sa = [] ∨ (l.drop p).head? = some 44) (ha : attrP (l.drop (p + 1)) = none) : o = none := by
  rcases h with ⟨rfl, _, rfl⟩ | ⟨h0, n, hn, rfl⟩
  · unfold attributesP; rw [ha]; rfl
  · rcases hb with rfl | hb
    · exact absurd rfl h0
    · obtain ⟨hp, hc⟩ := head_drop hb
      have hd := drop_at hp hc
      rw [hd] at hn ⊢
      obtain ⟨m, rfl⟩ : ∃ m, n = m + 1 := ⟨n - 1, by simp at hn; omega⟩
      rw [attrsP_more (by rfl), ha]
      rfl
theorem LoopP.more {l : List UInt8} {o : Option (List (List UInt8 × List UInt8) × List UInt8)} {sa : List (List UInt8 × List UInt8)} {p : Nat} (h : LoopP l o sa p) (hb : sa = [] ∨ (l.drop p).head? = some 44) {a : List UInt8 × List UInt8} {r : List UInt8} (ha : attrP (l.drop (p + 1)) = some (a, r)) (hp1 : p + 1 ≤ l.length) :
    LoopP l o (sa ++ [a]) (l.length - r.length) := by
  obtain ⟨hr, hq, hle⟩ := attrP_suffix ha hp1
  refine .inr ⟨by simp, ?_⟩
  rw [← hr]
  rcases h with ⟨rfl, _, rfl⟩ | ⟨h0, n, hn, rfl⟩
  · refine ⟨r.length, Nat.le_refl _, ?_⟩
    unfold attributesP; rw [ha]; rfl
  · rcases hb with rfl | hb
    · exact absurd rfl h0
    · obtain ⟨hp, hc⟩ := head_drop hb
      have hd := drop_at hp hc
      rw [hd] at hn ⊢
      obtain ⟨m, rfl⟩ : ∃ m, n = m + 1 := ⟨n - 1, by simp at hn; omega⟩
      have := attrP_len ha
      refine ⟨m, by simp at hn this; omega, ?_⟩
      rw [attrsP_more (by rfl), ha]
      simp only
      cases attrsP m r with
      | none => rfl
      | some x => simp
theorem LoopP.stop {l : List UInt8} {o : Option (List (List UInt8 × List UInt8) × List UInt8)} {sa : List (List UInt8 × List UInt8)} {p : Nat} (h : LoopP l o sa p) (h0 : sa ≠ []) (hb : (l.drop p).head? ≠ some 44) : o = expP 41 sa (l.drop p) := by
  rcases h with ⟨rfl, _, _⟩ | ⟨_, n, hn, rfl⟩
  · exact absurd rfl h0
  · rw [attrsP_stop hb]; simp
theorem attrP_zero {t : List UInt8} (h : wordLen t = 0) : attrP t = none := if_pos h
theorem attrP_end {t : List UInt8} (h : (t.drop (wordLen t)).head? ≠ some 61) : attrP t = none := by
  unfold attrP
  split
  · rfl
  · split
    · rename_i c u hd
      rw [hd] at h
      exact if_neg fun e => h (by rw [show c = 61 from UInt8.toNat_inj.1 (by rw [e]; rfl)]; rfl)
    · rfl
theorem attrP_mid {t u : List UInt8} (h : wordLen t ≠ 0) (hd : t.drop (wordLen t) = 61 :: u) : attrP t = (quoP u).map fun x => ((t.take (wordLen t), x.1), x.2) := by
  unfold attrP
  rw [if_neg h, hd]
  rfl
end Go.Proofs.YtcgedpfolloinaaGreat

namespace Go.Proofs.YtcgedpfolloinaaGreat
open Go.RowKit

set_option maxRecDepth 100000 in
set_option maxHeartbeats 4000000 in
theorem rhead_end (l : List UInt8) (k m : Nat) (c : UInt8) (lab : List UInt8) (w : World) (hk : k < l.length) (hl : l.length ≤ 90000) (hc : l[k] = c) (hlet : letterB c = true) (hm : wordLen (l.drop k) = m) (hlab : (l.drop k).take m = lab)
    (hend : k + m = l.length) :
    Calls Tryz.prog 153 #[.string ⟨l.toArray⟩, .int .i64 k] w (HdRes w l (headP (l.drop k))) := by
  have HD := drop_at hk hc
  have hmle : k + m ≤ l.length := by have := wordLen_le (l.drop k); simp at this; omega
  have HO := Lib.hid (show headP (l.drop k) = (optA (l.drop (k + m))).map fun x => (⟨0, lab, x.1, 0, 0, []⟩, x.2) by
    have := headP_word (t := l.drop (k + 1)) hlet (wordLen_pos hlet)
    rw [← HD, hm, hlab, List.drop_drop] at this
    exact this)
  have U := Lib.hid (fun w => show Calls Tryz.prog 169 #[.string ⟨l.toArray⟩, .int .i64 k] w fun e w' => e = .returned (.int .i64 m) ∧ w = w' from by have := qword_any l k w (by omega) (by omega); rw [hm] at this; exact this)
  have d0 : decide ((l.length : Int) ≤ (k : Int)) = false := by simp; omega
  have b1 : ((c.toNat : Int) == 34) = false := by have := (letter_not hlet).1; simp; omega
  have b1' : (c.toNat == 34) = false := by simpa using (letter_not hlet).1
  have HX0 := getD_at (d := 0) hk hc
  have L := Lib.hid (letter_any c)
  rw [hlet] at L
  have hx : (⟨l.toArray⟩ : ByteArray).extract k (k + m) = ⟨lab.toArray⟩ := (ext_mid l k m).trans (by rw [hlab])
  have a1 : (0 : Int) ≤ (k : Int) + (m : Int) := by omega
  have a2 : (k : Int) + (m : Int) ≤ (l.length : Int) := by omega
  have a3 : (k : Int) ≤ (k : Int) + (m : Int) := by omega
  have a4 : ((k : Int) + (m : Int)).toNat = k + m := by omega
  have hd : optA (l.drop (k + m)) = some ([], l.drop (k + m)) := optA_no (by rw [hend, List.drop_length]; simp)
  have d1 : decide ((l.length : Int) ≤ (k : Int) + (m : Int)) = true := by simp; omega
  have hge : ¬ k + m < l.length := by omega
  have HP := Lib.hid (HO.out.trans (show _ = some (⟨0, lab, [], 0, 0, []⟩, l.drop (k + m)) by rw [hd]; rfl))
  have hlen : l.length - (l.drop (k + m)).length = k + m := by simp; omega
  clear HO hd hend
  generalize headP (l.drop k) = o at *
  clear HD hlet hm hlab
  go_enter Tryz.func153, Tryz.ntmps153
  go_wp2_with fail
  refine (L.out _).mono ?_; rintro e w' ⟨rfl, rfl⟩
  go_wp2_with fail
  refine (U.out _).mono ?_
  rintro e w1 ⟨rfl, hw⟩
  obtain rfl := hw
  go_upto_region 11 with fail
  have kz := (Below.heap_alloc (w.alloc (.cells #[.int .i64 0, .string ⟨#[]⟩, .slice none 0 0, .int .i64 0, .int .i64 0, .string ⟨#[]⟩] 27)) (.cells #[.int .i64 0, .string ⟨lab.toArray⟩, .slice none 0 0, .int .i64 0, .int .i64 0, .string ⟨#[]⟩] 27) w.heap.size (by simp)).trans (World.alloc_heap_new w (.cells #[.int .i64 0, .string ⟨#[]⟩, .slice none 0 0, .int .i64 0, .int .i64 0, .string ⟨#[]⟩] 27))
  have kh := World.alloc_heap_new (w.alloc (.cells #[.int .i64 0, .string ⟨#[]⟩, .slice none 0 0, .int .i64 0, .int .i64 0, .string ⟨#[]⟩] 27)) (.cells #[.int .i64 0, .string ⟨lab.toArray⟩, .slice none 0 0, .int .i64 0, .int .i64 0, .string ⟨#[]⟩] 27)
  rw [show (w.alloc (.cells #[.int .i64 0, .string ⟨#[]⟩, .slice none 0 0, .int .i64 0, .int .i64 0, .string ⟨#[]⟩] 27)).heap.size = w.heap.size + 1 by simp] at kh
  have B1 : Below w.heap.size w ((w.alloc (.cells #[.int .i64 0, .string ⟨#[]⟩, .slice none 0 0, .int .i64 0, .int .i64 0, .string ⟨#[]⟩] 27)).alloc (.cells #[.int .i64 0, .string ⟨lab.toArray⟩, .slice none 0 0, .int .i64 0, .int .i64 0, .string ⟨#[]⟩] 27)) := by ((repeat' (first | exact Below.refl _ _ | assumption | refine Below.setCell ?_ ?_ _ | refine bdrewN ?_ _ | refine Below.drew ?_ | refine Below.alloc ?_ ?_ _ | refine bbehind ?_ (by assumption) ?_)); all_goals first | (simp; done) | (simp; omega) | omega)
  have hsz : ((w.alloc (.cells #[.int .i64 0, .string ⟨#[]⟩, .slice none 0 0, .int .i64 0, .int .i64 0, .string ⟨#[]⟩] 27)).alloc (.cells #[.int .i64 0, .string ⟨lab.toArray⟩, .slice none 0 0, .int .i64 0, .int .i64 0, .string ⟨#[]⟩] 27)).heap.size = w.heap.size + 2 := by simp
  generalize (w.alloc (.cells #[.int .i64 0, .string ⟨#[]⟩, .slice none 0 0, .int .i64 0, .int .i64 0, .string ⟨#[]⟩] 27)).alloc (.cells #[.int .i64 0, .string ⟨lab.toArray⟩, .slice none 0 0, .int .i64 0, .int .i64 0, .string ⟨#[]⟩] 27) = W at *
  have z0 : W.cell? ⟨w.heap.size, 0, none⟩ = some (.int .i64 0) := cell_of_block kz rfl
  have zf0 := frozen_of_block (o := 0) kz
  have z1 : W.cell? ⟨w.heap.size, 1, none⟩ = some (.string ⟨#[]⟩) := cell_of_block kz rfl
  have zf1 := frozen_of_block (o := 1) kz
  have z2 : W.cell? ⟨w.heap.size, 2, none⟩ = some (.slice none 0 0) := cell_of_block kz rfl
  have zf2 := frozen_of_block (o := 2) kz
  have z3 : W.cell? ⟨w.heap.size, 3, none⟩ = some (.int .i64 0) := cell_of_block kz rfl
  have zf3 := frozen_of_block (o := 3) kz
  have z4 : W.cell? ⟨w.heap.size, 4, none⟩ = some (.int .i64 0) := cell_of_block kz rfl
  have zf4 := frozen_of_block (o := 4) kz
  have z5 : W.cell? ⟨w.heap.size, 5, none⟩ = some (.string ⟨#[]⟩) := cell_of_block kz rfl
  have zf5 := frozen_of_block (o := 5) kz
  have y0 : W.cell? ⟨w.heap.size + 1, 0, none⟩ = some (.int .i64 0) := cell_of_block kh rfl
  have y1 : W.cell? ⟨w.heap.size + 1, 1, none⟩ = some (.string ⟨lab.toArray⟩) := cell_of_block kh rfl
  have y2 : W.cell? ⟨w.heap.size + 1, 2, none⟩ = some (.slice none 0 0) := cell_of_block kh rfl
  have y3 : W.cell? ⟨w.heap.size + 1, 3, none⟩ = some (.int .i64 0) := cell_of_block kh rfl
  have y4 : W.cell? ⟨w.heap.size + 1, 4, none⟩ = some (.int .i64 0) := cell_of_block kh rfl
  have y5 : W.cell? ⟨w.heap.size + 1, 5, none⟩ = some (.string ⟨#[]⟩) := cell_of_block kh rfl

  have nn : ¬ w.heap.size + 1 = w.heap.size := by omega
  clear kh
  go_wp2_with fail
  have hfin := set6_blk (.int .i64 0) (.string ⟨lab.toArray⟩) (.slice none 0 0) (.int .i64 0) (.int .i64 0) (.string ⟨#[]⟩) kz
  have hbel := set6_below (R := w.heap.size) (.int .i64 0) (.string ⟨lab.toArray⟩) (.slice none 0 0) (.int .i64 0) (.int .i64 0) (.string ⟨#[]⟩) B1 (by omega)
  have hkee := set6_keeps (B := w.heap.size + 1) (R := w.heap.size) W (.int .i64 0) (.string ⟨lab.toArray⟩) (.slice none 0 0) (.int .i64 0) (.int .i64 0) (.string ⟨#[]⟩) (by omega)
  generalize ((((((W).setCell ⟨w.heap.size, 0, none⟩ (.int .i64 0)).setCell ⟨w.heap.size, 1, none⟩ (.string ⟨lab.toArray⟩)).setCell ⟨w.heap.size, 2, none⟩ (.slice none 0 0)).setCell ⟨w.heap.size, 3, none⟩ (.int .i64 0)).setCell ⟨w.heap.size, 4, none⟩ (.int .i64 0)).setCell ⟨w.heap.size, 5, none⟩ (.string ⟨#[]⟩) = Wf at hfin hbel hkee ⊢
  have u0 : Wf.cell? ⟨w.heap.size, 0, none⟩ = some (.int .i64 0) := cell_of_block hfin rfl
  have u1 : Wf.cell? ⟨w.heap.size, 1, none⟩ = some (.string ⟨lab.toArray⟩) := cell_of_block hfin rfl
  have u2 : Wf.cell? ⟨w.heap.size, 2, none⟩ = some (.slice none 0 0) := cell_of_block hfin rfl
  have u3 : Wf.cell? ⟨w.heap.size, 3, none⟩ = some (.int .i64 0) := cell_of_block hfin rfl
  have u4 : Wf.cell? ⟨w.heap.size, 4, none⟩ = some (.int .i64 0) := cell_of_block hfin rfl
  have u5 : Wf.cell? ⟨w.heap.size, 5, none⟩ = some (.string ⟨#[]⟩) := cell_of_block hfin rfl
  refine bodyPost_ret (v := .tuple #[.agg #[.int .i64 0, .string ⟨lab.toArray⟩, .slice none 0 0, .int .i64 0, .int .i64 0, .string ⟨#[]⟩], .int .i64 ((k : Int) + (m : Int)), .bool true]) (by simp [results, Tryz.results153, go_sem, u0, u1, u2, u3, u4, u5]) rfl ?_
  rw [HP.out]
  exact HdRes.yes ⟨0, lab, [], 0, 0, []⟩ rfl (by rw [hlen] <;> simp) hbel

set_option maxRecDepth 100000 in
set_option maxHeartbeats 4000000 in
theorem rhead_word (l : List UInt8) (k m : Nat) (c : UInt8) (lab : List UInt8) (w : World) (hk : k < l.length) (hl : l.length ≤ 90000) (hc : l[k] = c) (hlet : letterB c = true) (hm : wordLen (l.drop k) = m) (hlab : (l.drop k).take m = lab)
    (d : UInt8) (hlt : k + m < l.length) (hd0 : l[k + m] = d) (h40 : d.toNat ≠ 40) :
    Calls Tryz.prog 153 #[.string ⟨l.toArray⟩, .int .i64 k] w (HdRes w l (headP (l.drop k))) := by
  have HD := drop_at hk hc
  have hmle : k + m ≤ l.length := by have := wordLen_le (l.drop k); simp at this; omega
  have HO := Lib.hid (show headP (l.drop k) = (optA (l.drop (k + m))).map fun x => (⟨0, lab, x.1, 0, 0, []⟩, x.2) by
    have := headP_word (t := l.drop (k + 1)) hlet (wordLen_pos hlet)
    rw [← HD, hm, hlab, List.drop_drop] at this
    exact this)
  have U := Lib.hid (fun w => show Calls Tryz.prog 169 #[.string ⟨l.toArray⟩, .int .i64 k] w fun e w' => e = .returned (.int .i64 m) ∧ w = w' from by have := qword_any l k w (by omega) (by omega); rw [hm] at this; exact this)
  have d0 : decide ((l.length : Int) ≤ (k : Int)) = false := by simp; omega
  have b1 : ((c.toNat : Int) == 34) = false := by have := (letter_not hlet).1; simp; omega
  have b1' : (c.toNat == 34) = false := by simpa using (letter_not hlet).1
  have HX0 := getD_at (d := 0) hk hc
  have L := Lib.hid (letter_any c)
  rw [hlet] at L
  have hx : (⟨l.toArray⟩ : ByteArray).extract k (k + m) = ⟨lab.toArray⟩ := (ext_mid l k m).trans (by rw [hlab])
  have a1 : (0 : Int) ≤ (k : Int) + (m : Int) := by omega
  have a2 : (k : Int) + (m : Int) ≤ (l.length : Int) := by omega
  have a3 : (k : Int) ≤ (k : Int) + (m : Int) := by omega
  have a4 : ((k : Int) + (m : Int)).toNat = k + m := by omega
  have hd : optA (l.drop (k + m)) = some ([], l.drop (k + m)) := optA_no (by rw [drop_at hlt hd0]; simp; intro e; exact h40 (by rw [e]; rfl))
  have d1 : decide ((l.length : Int) ≤ (k : Int) + (m : Int)) = false := by simp; omega
  have b2 : ((d.toNat : Int) != 40) = true := by simp; omega
  have b2' : (d.toNat == 40) = false := by simpa using h40
  have HX2 := getD_at (d := 0) hlt hd0
  have HP := Lib.hid (HO.out.trans (show _ = some (⟨0, lab, [], 0, 0, []⟩, l.drop (k + m)) by rw [hd]; rfl))
  have hlen : l.length - (l.drop (k + m)).length = k + m := by simp; omega
  clear HO hd
  generalize headP (l.drop k) = o at *
  clear HD hlet hm hlab
  go_enter Tryz.func153, Tryz.ntmps153
  go_wp2_with fail
  refine (L.out _).mono ?_; rintro e w' ⟨rfl, rfl⟩
  go_wp2_with fail
  refine (U.out _).mono ?_
  rintro e w1 ⟨rfl, hw⟩
  obtain rfl := hw
  go_upto_region 11 with fail
  have kz := (Below.heap_alloc (w.alloc (.cells #[.int .i64 0, .string ⟨#[]⟩, .slice none 0 0, .int .i64 0, .int .i64 0, .string ⟨#[]⟩] 27)) (.cells #[.int .i64 0, .string ⟨lab.toArray⟩, .slice none 0 0, .int .i64 0, .int .i64 0, .string ⟨#[]⟩] 27) w.heap.size (by simp)).trans (World.alloc_heap_new w (.cells #[.int .i64 0, .string ⟨#[]⟩, .slice none 0 0, .int .i64 0, .int .i64 0, .string ⟨#[]⟩] 27))
  have kh := World.alloc_heap_new (w.alloc (.cells #[.int .i64 0, .string ⟨#[]⟩, .slice none 0 0, .int .i64 0, .int .i64 0, .string ⟨#[]⟩] 27)) (.cells #[.int .i64 0, .string ⟨lab.toArray⟩, .slice none 0 0, .int .i64 0, .int .i64 0, .string ⟨#[]⟩] 27)
  rw [show (w.alloc (.cells #[.int .i64 0, .string ⟨#[]⟩, .slice none 0 0, .int .i64 0, .int .i64 0, .string ⟨#[]⟩] 27)).heap.size = w.heap.size + 1 by simp] at kh
  have B1 : Below w.heap.size w ((w.alloc (.cells #[.int .i64 0, .string ⟨#[]⟩, .slice none 0 0, .int .i64 0, .int .i64 0, .string ⟨#[]⟩] 27)).alloc (.cells #[.int .i64 0, .string ⟨lab.toArray⟩, .slice none 0 0, .int .i64 0, .int .i64 0, .string ⟨#[]⟩] 27)) := by ((repeat' (first | exact Below.refl _ _ | assumption | refine Below.setCell ?_ ?_ _ | refine bdrewN ?_ _ | refine Below.drew ?_ | refine Below.alloc ?_ ?_ _ | refine bbehind ?_ (by assumption) ?_)); all_goals first | (simp; done) | (simp; omega) | omega)
  have hsz : ((w.alloc (.cells #[.int .i64 0, .string ⟨#[]⟩, .slice none 0 0, .int .i64 0, .int .i64 0, .string ⟨#[]⟩] 27)).alloc (.cells #[.int .i64 0, .string ⟨lab.toArray⟩, .slice none 0 0, .int .i64 0, .int .i64 0, .string ⟨#[]⟩] 27)).heap.size = w.heap.size + 2 := by simp
  generalize (w.alloc (.cells #[.int .i64 0, .string ⟨#[]⟩, .slice none 0 0, .int .i64 0, .int .i64 0, .string ⟨#[]⟩] 27)).alloc (.cells #[.int .i64 0, .string ⟨lab.toArray⟩, .slice none 0 0, .int .i64 0, .int .i64 0, .string ⟨#[]⟩] 27) = W at *
  have z0 : W.cell? ⟨w.heap.size, 0, none⟩ = some (.int .i64 0) := cell_of_block kz rfl
  have zf0 := frozen_of_block (o := 0) kz
  have z1 : W.cell? ⟨w.heap.size, 1, none⟩ = some (.string ⟨#[]⟩) := cell_of_block kz rfl
  have zf1 := frozen_of_block (o := 1) kz
  have z2 : W.cell? ⟨w.heap.size, 2, none⟩ = some (.slice none 0 0) := cell_of_block kz rfl
  have zf2 := frozen_of_block (o := 2) kz
  have z3 : W.cell? ⟨w.heap.size, 3, none⟩ = some (.int .i64 0) := cell_of_block kz rfl
  have zf3 := frozen_of_block (o := 3) kz
  have z4 : W.cell? ⟨w.heap.size, 4, none⟩ = some (.int .i64 0) := cell_of_block kz rfl
  have zf4 := frozen_of_block (o := 4) kz
  have z5 : W.cell? ⟨w.heap.size, 5, none⟩ = some (.string ⟨#[]⟩) := cell_of_block kz rfl
  have zf5 := frozen_of_block (o := 5) kz
  have y0 : W.cell? ⟨w.heap.size + 1, 0, none⟩ = some (.int .i64 0) := cell_of_block kh rfl
  have y1 : W.cell? ⟨w.heap.size + 1, 1, none⟩ = some (.string ⟨lab.toArray⟩) := cell_of_block kh rfl
  have y2 : W.cell? ⟨w.heap.size + 1, 2, none⟩ = some (.slice none 0 0) := cell_of_block kh rfl
  have y3 : W.cell? ⟨w.heap.size + 1, 3, none⟩ = some (.int .i64 0) := cell_of_block kh rfl
  have y4 : W.cell? ⟨w.heap.size + 1, 4, none⟩ = some (.int .i64 0) := cell_of_block kh rfl
  have y5 : W.cell? ⟨w.heap.size + 1, 5, none⟩ = some (.string ⟨#[]⟩) := cell_of_block kh rfl

  have nn : ¬ w.heap.size + 1 = w.heap.size := by omega
  clear kh
  go_wp2_with fail
  have hfin := set6_blk (.int .i64 0) (.string ⟨lab.toArray⟩) (.slice none 0 0) (.int .i64 0) (.int .i64 0) (.string ⟨#[]⟩) kz
  have hbel := set6_below (R := w.heap.size) (.int .i64 0) (.string ⟨lab.toArray⟩) (.slice none 0 0) (.int .i64 0) (.int .i64 0) (.string ⟨#[]⟩) B1 (by omega)
  have hkee := set6_keeps (B := w.heap.size + 1) (R := w.heap.size) W (.int .i64 0) (.string ⟨lab.toArray⟩) (.slice none 0 0) (.int .i64 0) (.int .i64 0) (.string ⟨#[]⟩) (by omega)
  generalize ((((((W).setCell ⟨w.heap.size, 0, none⟩ (.int .i64 0)).setCell ⟨w.heap.size, 1, none⟩ (.string ⟨lab.toArray⟩)).setCell ⟨w.heap.size, 2, none⟩ (.slice none 0 0)).setCell ⟨w.heap.size, 3, none⟩ (.int .i64 0)).setCell ⟨w.heap.size, 4, none⟩ (.int .i64 0)).setCell ⟨w.heap.size, 5, none⟩ (.string ⟨#[]⟩) = Wf at hfin hbel hkee ⊢
  have u0 : Wf.cell? ⟨w.heap.size, 0, none⟩ = some (.int .i64 0) := cell_of_block hfin rfl
  have u1 : Wf.cell? ⟨w.heap.size, 1, none⟩ = some (.string ⟨lab.toArray⟩) := cell_of_block hfin rfl
  have u2 : Wf.cell? ⟨w.heap.size, 2, none⟩ = some (.slice none 0 0) := cell_of_block hfin rfl
  have u3 : Wf.cell? ⟨w.heap.size, 3, none⟩ = some (.int .i64 0) := cell_of_block hfin rfl
  have u4 : Wf.cell? ⟨w.heap.size, 4, none⟩ = some (.int .i64 0) := cell_of_block hfin rfl
  have u5 : Wf.cell? ⟨w.heap.size, 5, none⟩ = some (.string ⟨#[]⟩) := cell_of_block hfin rfl
  refine bodyPost_ret (v := .tuple #[.agg #[.int .i64 0, .string ⟨lab.toArray⟩, .slice none 0 0, .int .i64 0, .int .i64 0, .string ⟨#[]⟩], .int .i64 ((k : Int) + (m : Int)), .bool true]) (by simp [results, Tryz.results153, go_sem, u0, u1, u2, u3, u4, u5]) rfl ?_
  rw [HP.out]
  exact HdRes.yes ⟨0, lab, [], 0, 0, []⟩ rfl (by rw [hlen] <;> simp) hbel
end Go.Proofs.YtcgedpfolloinaaGreat
