/- What the proof of PrfTreeTurned rests on, part 7 of 10. -/
import Derived.Laws.OwnMore
import Derived.Deep.DeepCutAuto
import Derived.Test.YtcgedpfolloinaaGreatPPrfTreeTurned6
namespace Go.Proofs.YtcgedpfolloinaaGreat
open Go.RowKit

theorem esc_no (d : UInt8) (h : d.toNat < 128) (he : ¬ (d.toNat = 34 ∨ d.toNat = 92)) (W : World) : Sem.run Tryz.prog (Instr.index 130 (.agg escA) (.int .u8 (d.toNat : Int))) W = .ok (.bool false) W := by
  have hu : Tryz.prog.underlying 130 = some (.array 128 4) := by kernel_rfl
  have h1 := escA_at d.toNat h
  have h2 : (d.toNat == 34 || d.toNat == 92) = false := by simpa using he
  rw [h2] at h1
  simp [Instr.index, run_underlying hu, asIntOf, h1, h, go_sem]

set_option maxRecDepth 100000 in
set_option maxHeartbeats 8000000 in
theorem rquoted_in (b : Nat) (t0 : List UInt8) (o : Option (List UInt8 × List UInt8)) (w : World) (h' : RdAt b (34 :: t0) w) (ho : qbP t0 = o) (hl : t0.length ≤ 900000) :
    Calls Tryz.prog 185 #[.pointer (some ⟨b, 0, none⟩)] w fun e w' => Got b w o (fun s _ v => v = .string ⟨s.toArray⟩) e w' := by
  obtain ⟨i0, hi, hz0, hz1, hz2⟩ := info_parts info_u8
  have hbw := h'.lt
  have E0 := Lib.hid (expect_yes b 34 t0 w h' (by omega))
  have R0 := Lib.hid ((Rd.refl h').set t0)
  have HQ := Lib.hid ho
  clear h' ho
  go_enter Tryz.func185, Tryz.ntmps185
  go_wp2_with fail
  refine E0.out.mono ?_
  rintro e w1 ⟨rfl, rfl⟩
  generalize w.setCell ⟨b, 0, none⟩ (.string ⟨t0.toArray⟩) = w1 at *
  have hs1 := R0.out.bel.size
  go_wp2_with fail
  go_loopw [3] (fun v wr => ∃ (a r : List UInt8) (v0 : Value), v = v0 ∧ qbP t0 = (qbP r).map (fun x => (a ++ x.1, x.2)) ∧ a.length + r.length ≤ t0.length ∧ Rd b r w wr ∧ w1.heap.size ≤ wr.heap.size ∧ wr.ownsRow w1.heap.size 5 1 v a.length (Lib.byteCells a)) (fun _ wr => match wr.cell? ⟨b, 0, none⟩ with | some (.string x) => x.size | _ => 0)
  case atStart => exact ⟨[], t0, _, rfl, (map_nil _).symm, by simp, R0.out, Nat.le_refl _, World.ownsRow_nil _ _ _ _⟩
  case round =>
    obtain ⟨a, r, v0, hv0, hq, hlen, rr, hzr, hown⟩ := hrel
    obtain rfl := hv0.symm
    have RR := Lib.hid rr
    have HOWN := Lib.hid hown
    have HQR := Lib.hid (HQ.out.symm.trans hq)
    clear rr hq
    cases r with
    | nil =>
      clear hown
      have HNO := Lib.hid (HQR.out.trans (show _ = none from rfl))
      go_wp2_with fail
      refine (accept_nil b 34 _ RR.out.rd).mono ?_
      rintro e w2 ⟨rfl, hw⟩
      obtain rfl := hw.symm
      go_wp2_with fail
      refine (accept_nil b 92 _ RR.out.rd).mono ?_
      rintro e w2 ⟨rfl, hw⟩
      obtain rfl := hw.symm
      go_wp2_with fail
      refine (look_no b _ RR.out.rd).mono ?_
      rintro e w2 ⟨rfl, hb2⟩
      have R2 := Lib.hid (RR.out.below hb2)
      clear hb2
      go_wp2_with fail
      exact ⟨rfl, .no HNO.out R2.out⟩
    | cons c t =>
      by_cases h34 : c.toNat = 34
      · obtain rfl : c = 34 := UInt8.toNat_inj.1 (by first | (rw [h34]; rfl) | (rw [h92]; rfl))
        have HYES := Lib.hid (HQR.out.trans (show _ = some (a, t) by rw [qbP_end h34]; simp))
        have RF := Lib.hid (RR.out.set t)
        have hcv : ∀ W : World, (∀ k, k < wr.heap.size → k ≠ b → W.heap[k]? = wr.heap[k]?) → (convert 92 189 v0).run Tryz.prog W = .ok (.string ⟨a.toArray⟩) W := by
          intro W hW
          rcases hown.2 with ⟨rfl, h0⟩ | ⟨g, cap, cur, rfl, hbg, hg, hn, hcap, hsz, ht⟩
          · have hs0 : a = [] := List.eq_nil_of_length_eq_zero h0
            subst hs0
            exact Lib.run_convert_nil_bytes W _ _ 5 0 Tryz.underlying92 Tryz.underlying5 Tryz.underlying189
          · refine run_convert_bytes_back W _ _ 5 ⟨g, 0, none⟩ cap a Tryz.underlying92 Tryz.underlying5 Tryz.underlying189 fun j hj => ?_
            have hg' := (hW g (Array.getElem?_eq_some_iff.1 hg).1 (by omega)).trans hg
            have := hown.cells (g := g) rfl j (.int .u8 (a[j].toNat)) (by simp [Lib.byteCells, hj])
            rw [Go.WideShapes.add_plain] at this ⊢
            rw [World.cell?_of_block (w := wr) (hg'.trans hg.symm)]
            exact this
        have HCV := Lib.hid hcv
        clear hcv hown h34
        have hlt : t.length ≤ 1000000 := by simp at hlen; omega
        go_wp2_with fail
        refine (accept_yes b 34 _ _ RR.out.rd hlt).mono ?_
        rintro e w2 ⟨rfl, rfl⟩
        have hcv2 := HCV.out (wr.setCell ⟨b, 0, none⟩ (.string ⟨t.toArray⟩)) (fun k _ hk => Below.heap_setCell _ _ _ _ hk)
        generalize wr.setCell ⟨b, 0, none⟩ (.string ⟨t.toArray⟩) = w2 at *
        go_wp2_with fail
        go_ret
        exact .yes HYES.out rfl RF.out
      have hc34 : c ≠ 34 := by rintro rfl; exact h34 rfl
      by_cases h92 : c.toNat = 92
      · obtain rfl : c = 92 := UInt8.toNat_inj.1 (by first | (rw [h34]; rfl) | (rw [h92]; rfl))
        have R2 := Lib.hid (RR.out.set t)
        have hlt : t.length ≤ 1000000 := by simp at hlen; omega
        cases t with
        | nil =>
          have HNO := Lib.hid (HQR.out.trans (show _ = none by rw [qbP_esc_nil h92]; rfl))
          clear hown h34 h92
          go_wp2_with fail
          refine (accept_other b 34 92 _ _ RR.out.rd (by decide)).mono ?_
          rintro e w2 ⟨rfl, hw⟩
          obtain rfl := hw.symm
          go_wp2_with fail
          refine (accept_yes b 92 _ _ RR.out.rd hlt).mono ?_
          rintro e w2 ⟨rfl, rfl⟩
          generalize wr.setCell ⟨b, 0, none⟩ (.string ⟨([] : List UInt8).toArray⟩) = w2 at *
          go_wp2_with fail
          refine (look_no b _ R2.out.rd).mono ?_
          rintro e w3 ⟨rfl, hb2⟩
          have R3 := Lib.hid (R2.out.below hb2)
          clear hb2
          go_wp2_with fail
          exact ⟨rfl, .no HNO.out R3.out⟩
        | cons d u =>
          have PC := Lib.hid (tprint_any d)
          have HL3 := Lib.hid (show (a ++ [d]).length + u.length ≤ t0.length by simp at hlen ⊢; omega)
          have hlu : u.length ≤ 1000000 := by simp at hlen; omega
          have O2 := Lib.hid (show (wr.setCell ⟨b, 0, none⟩ (.string ⟨(d :: u).toArray⟩)).ownsRow w1.heap.size 5 1 v0 a.length (Lib.byteCells a) from
            HOWN.out.kept (row := some b) ⟨rfl, rfl, rfl, by simp [World.setCell], fun k _ hk => Below.heap_setCell _ _ _ _ (fun e => hk (congrArg some e))⟩ (Or.inr (fun e => by have := (HOWN.out.lt b e).1; omega)))
          have hz2' : w1.heap.size ≤ (wr.setCell ⟨b, 0, none⟩ (.string ⟨(d :: u).toArray⟩)).heap.size := by simp [World.setCell]; omega
          by_cases he : d.toNat = 34 ∨ d.toNat = 92
          · have HQN := Lib.hid (HQ.out.trans (HQR.out.trans (by rw [qbP_esc h92 he, map_pre])))
            have hpd : printB d = true := by rcases he with h | h <;> simp [printB, h]
            rw [hpd] at PC
            have hc128 : d.toNat < 128 := by rcases he with h | h <;> omega
            have hix : ∀ W : World, Sem.run Tryz.prog (Instr.index 130 (.agg escA) (.int .u8 (d.toNat : Int))) W = .ok (.bool true) W := by
              intro W
              rcases he with h | h
              · rw [h]; kernel_rfl
              · rw [h]; kernel_rfl
            clear hown h34 h92 he
            go_wp2_with fail
            refine (accept_other b 34 92 _ _ RR.out.rd (by decide)).mono ?_
            rintro e w2 ⟨rfl, hw⟩
            obtain rfl := hw.symm
            go_wp2_with fail
            refine (accept_yes b 92 _ _ RR.out.rd hlt).mono ?_
            rintro e w2 ⟨rfl, rfl⟩
            generalize wr.setCell ⟨b, 0, none⟩ (.string ⟨(d :: u).toArray⟩) = w2 at *
            go_wp2_with fail
            refine (look_yes b d _ _ R2.out.rd).mono ?_
            rintro e w3 ⟨rfl, hw⟩
            obtain rfl := hw.symm
            go_wp2_with fail
            refine (PC.out _).mono ?_
            rintro e w3 ⟨rfl, rfl⟩
            go_wp2_with fail
            refine (escaped_any w2).mono ?_
            rintro e w3 ⟨rfl, hb3⟩
            have R3 := Lib.hid (R2.out.below hb3)
            have hs3 := hb3.size
            have O3 := Lib.hid (show w3.ownsRow w1.heap.size 5 1 v0 a.length (Lib.byteCells a) by
              refine ⟨O2.out.1, ?_⟩
              rcases O2.out.2 with hn | ⟨g, cap, cur, hv, hbg, hg, rest⟩
              · exact .inl hn
              · exact .inr ⟨g, cap, cur, hv, hbg, (hb3.block g (Array.getElem?_eq_some_iff.1 hg).1).trans hg, rest⟩)
            clear hb3
            have hnews : ∀ j u, [Value.int .u8 d.toNat][j]? = some u → (w3.alloc (.cells #[.int .u8 d.toNat] 5)).cell? ((⟨w3.heap.size, 0, none⟩ : Addr).add j) = some u := by
              intro j u hj
              match j, hj with
              | 0, hj => simp at hj; subst hj; simp [Addr.add]
            have HNEWS := Lib.hid hnews
            clear hnews
            go_wp2_with (at_builtin; refine wpList_append_own _ rfl _ _ 92 rfl w1.heap.size 5 i0 (.int .u8 0) 1 1 Tryz.underlying92 hi hz0 hz1 hz2 rfl (by decide) _ a.length (Lib.byteCells a) rfl (O3.out.alloc (.cells #[.int .u8 d.toNat] 5)) ⟨w3.heap.size, 0, none⟩ 1 1 [.int .u8 d.toNat] rfl rfl HNEWS.out ?c2 ?c3 ?c4 ?c5 ?stop)
            case c2 => intro u hu; simp at hu; subst hu; rfl
            case c3 => unfold maxLen; omega
            case c4 => omega
            case c5 => simp; omega
            case stop =>
              intro v' w5 hown' hgrow _
              obtain ⟨g, cap, rfl⟩ : ∃ g cap, v' = .slice (some ⟨g, 0, none⟩) (a.length + 1) cap := by
                rcases hown'.2 with ⟨_, h0⟩ | ⟨g, cap, cur, hv, _⟩
                · omega
                · exact ⟨g, cap, hv⟩
              have HO := Lib.hid hown'
              have R5 := Lib.hid (show Rd b (d :: u) w w5 by
                have hb := R3.out.rd.lt
                have h1 : w5.heap[b]? = w3.heap[b]? := by
                  rw [hgrow.block b (by simp; omega) (fun e => by have := (O3.out.lt b e.symm).1; omega), Below.heap_alloc w3 _ b (by omega)]
                refine ⟨h1.trans R3.out.rd, ?_, fun i hi hn => ?_⟩
                · exact ((R3.out.bel.alloc (by omega) _).grown hgrow (by simp; omega) (fun k hk => by have := (O3.out.lt k hk).1; omega))
                · rw [hgrow.block i (by have := R3.out.bel.size; simp; omega) (fun e => by have := (O3.out.lt i e.symm).1; omega), Below.heap_alloc w3 _ i (by have := R3.out.bel.size; omega)]
                  exact R3.out.oth i hi hn)
              have hz5 := hgrow.size
              simp at hz5
              clear hown' hgrow
              go_wp2_with fail
              refine (expect_yes b d _ _ R5.out.rd (by omega)).mono ?_
              rintro e w6 ⟨rfl, hw⟩
              obtain rfl := hw.symm
              have R6 := Lib.hid (R5.out.set u)
              have hgb : g ≠ b := by
                have := (HO.out.lt g rfl).1
                omega
              have O6 := Lib.hid (show (w5.setCell ⟨b, 0, none⟩ (.string ⟨(u).toArray⟩)).ownsRow w1.heap.size 5 1 (.slice (some ⟨g, 0, none⟩) (a.length + 1) cap) (a ++ [d]).length (Lib.byteCells (a ++ [d])) by
                rw [show Lib.byteCells (a ++ [d]) = Lib.byteCells a ++ [.int .u8 d.toNat] by simp [Lib.byteCells], show (a ++ [d]).length = a.length + 1 by simp]
                exact HO.out.kept (row := some b) ⟨rfl, rfl, rfl, by simp [World.setCell], fun k _ hk => Below.heap_setCell _ _ _ _ (fun e => hk (by simp [e]))⟩ (Or.inr (by simp [Value.ownBlock]; exact hgb)))
              have hzf : w1.heap.size ≤ (w5.setCell ⟨b, 0, none⟩ (.string ⟨(u).toArray⟩)).heap.size := by simp [World.setCell]; omega
              generalize w5.setCell ⟨b, 0, none⟩ (.string ⟨(u).toArray⟩) = w6 at *
              go_wp2_with fail
              go_roundw
              case rel => exact ⟨a ++ [d], u, _, rfl, HQN.out, HL3.out, R6.out, hzf, O6.out⟩
              case measure =>
                rw [R6.out.rd.cell, RR.out.rd.cell]
                simp [ByteArray.size] <;> omega
          · have HNO := Lib.hid (HQR.out.trans (show _ = none by rw [qbP_esc_no h92 he]; rfl))
            cases hpd : printB d with
            | false =>
              rw [hpd] at PC
              clear hown h34 h92 he hpd
              go_wp2_with fail
              refine (accept_other b 34 92 _ _ RR.out.rd (by decide)).mono ?_
              rintro e w2 ⟨rfl, hw⟩
              obtain rfl := hw.symm
              go_wp2_with fail
              refine (accept_yes b 92 _ _ RR.out.rd hlt).mono ?_
              rintro e w2 ⟨rfl, rfl⟩
              generalize wr.setCell ⟨b, 0, none⟩ (.string ⟨(d :: u).toArray⟩) = w2 at *
              go_wp2_with fail
              refine (look_yes b d _ _ R2.out.rd).mono ?_
              rintro e w3 ⟨rfl, hw⟩
              obtain rfl := hw.symm
              go_wp2_with fail
              refine (PC.out _).mono ?_
              rintro e w3 ⟨rfl, rfl⟩
              have R3 := Lib.hid (R2.out.below (w := w2) (Below.refl _ _))
              go_wp2_with fail
              exact ⟨rfl, .no HNO.out R3.out⟩
            | true =>
              rw [hpd] at PC
              have hc128 : d.toNat < 128 := by simp [printB] at hpd; omega
              have hix : ∀ W : World, Sem.run Tryz.prog (Instr.index 130 (.agg escA) (.int .u8 (d.toNat : Int))) W = .ok (.bool false) W := esc_no d hc128 he
              clear hown h34 h92 he hpd
              go_wp2_with fail
              refine (accept_other b 34 92 _ _ RR.out.rd (by decide)).mono ?_
              rintro e w2 ⟨rfl, hw⟩
              obtain rfl := hw.symm
              go_wp2_with fail
              refine (accept_yes b 92 _ _ RR.out.rd hlt).mono ?_
              rintro e w2 ⟨rfl, rfl⟩
              generalize wr.setCell ⟨b, 0, none⟩ (.string ⟨(d :: u).toArray⟩) = w2 at *
              go_wp2_with fail
              refine (look_yes b d _ _ R2.out.rd).mono ?_
              rintro e w3 ⟨rfl, hw⟩
              obtain rfl := hw.symm
              go_wp2_with fail
              refine (PC.out _).mono ?_
              rintro e w3 ⟨rfl, rfl⟩
              go_wp2_with fail
              refine (escaped_any w2).mono ?_
              rintro e w3 ⟨rfl, hb3⟩
              have R3 := Lib.hid (R2.out.below hb3)
              clear hb3
              go_wp2_with fail
              exact ⟨rfl, .no HNO.out R3.out⟩
      · have PC := Lib.hid (tprint_any c)
        have HL3 := Lib.hid (show (a ++ [c]).length + t.length ≤ t0.length by simp at hlen ⊢; omega)
        have hlt : t.length ≤ 1000000 := by simp at hlen; omega
        have hc92 : c ≠ 92 := by rintro rfl; exact h92 rfl
        cases hpd : printB c with
        | false =>
          have HNO := Lib.hid (HQR.out.trans (show _ = none by rw [qbP_no h34 h92 hpd]; rfl))
          rw [hpd] at PC
          clear hown h34 h92 hpd
          go_wp2_with fail
          refine (accept_other b 34 c _ _ RR.out.rd hc34).mono ?_
          rintro e w2 ⟨rfl, hw⟩
          obtain rfl := hw.symm
          go_wp2_with fail
          refine (accept_other b 92 c _ _ RR.out.rd hc92).mono ?_
          rintro e w2 ⟨rfl, hw⟩
          obtain rfl := hw.symm
          go_wp2_with fail
          refine (look_yes b c _ _ RR.out.rd).mono ?_
          rintro e w2 ⟨rfl, hw⟩
          obtain rfl := hw.symm
          go_wp2_with fail
          refine (PC.out _).mono ?_
          rintro e w2 ⟨rfl, rfl⟩
          go_wp2_with fail
          exact ⟨rfl, .no HNO.out RR.out⟩
        | true =>
          have HQN := Lib.hid (HQ.out.trans (HQR.out.trans (by rw [qbP_put h34 h92 hpd, map_pre])))
          rw [hpd] at PC
          clear hown h34 h92 hpd
          go_wp2_with fail
          refine (accept_other b 34 c _ _ RR.out.rd hc34).mono ?_
          rintro e w2 ⟨rfl, hw⟩
          obtain rfl := hw.symm
          go_wp2_with fail
          refine (accept_other b 92 c _ _ RR.out.rd hc92).mono ?_
          rintro e w2 ⟨rfl, hw⟩
          obtain rfl := hw.symm
          go_wp2_with fail
          refine (look_yes b c _ _ RR.out.rd).mono ?_
          rintro e w2 ⟨rfl, hw⟩
          obtain rfl := hw.symm
          go_wp2_with fail
          refine (PC.out _).mono ?_
          rintro e w2 ⟨rfl, rfl⟩
          have hnews : ∀ j u, [Value.int .u8 c.toNat][j]? = some u → (wr.alloc (.cells #[.int .u8 c.toNat] 5)).cell? ((⟨wr.heap.size, 0, none⟩ : Addr).add j) = some u := by
            intro j u hj
            match j, hj with
            | 0, hj => simp at hj; subst hj; simp [Addr.add]
          have HNEWS := Lib.hid hnews
          clear hnews
          go_wp2_with (at_builtin; refine wpList_append_own _ rfl _ _ 92 rfl w1.heap.size 5 i0 (.int .u8 0) 1 1 Tryz.underlying92 hi hz0 hz1 hz2 rfl (by decide) _ a.length (Lib.byteCells a) rfl (HOWN.out.alloc (.cells #[.int .u8 c.toNat] 5)) ⟨wr.heap.size, 0, none⟩ 1 1 [.int .u8 c.toNat] rfl rfl HNEWS.out ?c2 ?c3 ?c4 ?c5 ?stop)
          case c2 => intro u hu; simp at hu; subst hu; rfl
          case c3 => unfold maxLen; omega
          case c4 => omega
          case c5 => simp; omega
          case stop =>
            intro v' w5 hown' hgrow _
            obtain ⟨g, cap, rfl⟩ : ∃ g cap, v' = .slice (some ⟨g, 0, none⟩) (a.length + 1) cap := by
              rcases hown'.2 with ⟨_, h0⟩ | ⟨g, cap, cur, hv, _⟩
              · omega
              · exact ⟨g, cap, hv⟩
            have HO := Lib.hid hown'
            have R5 := Lib.hid (show Rd b (c :: t) w w5 by
              have hb := RR.out.rd.lt
              have h1 : w5.heap[b]? = wr.heap[b]? := by
                rw [hgrow.block b (by simp; omega) (fun e => by have := (HOWN.out.lt b e.symm).1; omega), Below.heap_alloc wr _ b (by omega)]
              refine ⟨h1.trans RR.out.rd, ?_, fun i hi hn => ?_⟩
              · exact ((RR.out.bel.alloc (by omega) _).grown hgrow (by simp; omega) (fun k hk => by have := (HOWN.out.lt k hk).1; omega))
              · rw [hgrow.block i (by have := RR.out.bel.size; simp; omega) (fun e => by have := (HOWN.out.lt i e.symm).1; omega), Below.heap_alloc wr _ i (by have := RR.out.bel.size; omega)]
                exact RR.out.oth i hi hn)
            have hz5 := hgrow.size
            simp at hz5
            clear hown' hgrow
            go_wp2_with fail
            refine (expect_yes b c _ _ R5.out.rd (by omega)).mono ?_
            rintro e w6 ⟨rfl, hw⟩
            obtain rfl := hw.symm
            have R6 := Lib.hid (R5.out.set t)
            have hgb : g ≠ b := by
              have := (HO.out.lt g rfl).1
              omega
            have O6 := Lib.hid (show (w5.setCell ⟨b, 0, none⟩ (.string ⟨(t).toArray⟩)).ownsRow w1.heap.size 5 1 (.slice (some ⟨g, 0, none⟩) (a.length + 1) cap) (a ++ [c]).length (Lib.byteCells (a ++ [c])) by
              rw [show Lib.byteCells (a ++ [c]) = Lib.byteCells a ++ [.int .u8 c.toNat] by simp [Lib.byteCells], show (a ++ [c]).length = a.length + 1 by simp]
              exact HO.out.kept (row := some b) ⟨rfl, rfl, rfl, by simp [World.setCell], fun k _ hk => Below.heap_setCell _ _ _ _ (fun e => hk (by simp [e]))⟩ (Or.inr (by simp [Value.ownBlock]; exact hgb)))
            have hzf : w1.heap.size ≤ (w5.setCell ⟨b, 0, none⟩ (.string ⟨(t).toArray⟩)).heap.size := by simp [World.setCell]; omega
            generalize w5.setCell ⟨b, 0, none⟩ (.string ⟨(t).toArray⟩) = w6 at *
            go_wp2_with fail
            go_roundw
            case rel => exact ⟨a ++ [c], t, _, rfl, HQN.out, HL3.out, R6.out, hzf, O6.out⟩
            case measure =>
              rw [R6.out.rd.cell, RR.out.rd.cell]
              simp [ByteArray.size] <;> omega
theorem rquoted_any (b : Nat) (l : List UInt8) (w : World) (h : RdAt b l w) (hl : l.length ≤ 900000) :
    Calls Tryz.prog 185 #[.pointer (some ⟨b, 0, none⟩)] w fun e w' => Got b w (quoP l) (fun s _ v => v = .string ⟨s.toArray⟩) e w' := by
  by_cases hc : l.head? = some 34
  · cases l with
    | nil => cases hc
    | cons c t =>
      obtain rfl : c = 34 := by simpa using hc
      exact rquoted_in b t _ w h rfl (by simp at hl; omega)
  · have ho : quoP l = none := by
      cases l with
      | nil => rfl
      | cons c t =>
        exact quoP_no fun e => hc (by rw [show c = 34 from UInt8.toNat_inj.1 (by rw [e]; rfl)]; rfl)
    have E := Lib.hid (expect_no b 34 l w h hc)
    have R := Lib.hid (Rd.refl h)
    have HO := Lib.hid ho
    clear h ho hc
    go_enter Tryz.func185, Tryz.ntmps185
    go_wp2_with fail
    refine E.out.mono ?_
    rintro e w1 ⟨rfl, hb⟩
    have R1 := Lib.hid (R.out.below hb)
    clear hb
    go_wp2_with fail
    exact ⟨rfl, .no HO.out R1.out⟩
end Go.Proofs.YtcgedpfolloinaaGreat

namespace Go.Proofs.YtcgedpfolloinaaGreat
open Go.RowKit

theorem numLen_at {l : List UInt8} {k : Nat} (h : ∀ j (hj : j < l.length), j < k → numB l[j] = true) (hk : k ≤ l.length) (hs : ∀ hk : k < l.length, numB l[k] = false) : numLen l = k := by
  have a1 : ¬ numLen l < k := fun hlt => by
    have hw : l.findIdx (fun c => !numB c) < l.length := by unfold numLen at hlt; omega
    have h1 := List.findIdx_getElem (w := hw)
    have h2 := h _ hw hlt
    simp [h2] at h1
  have hle := numLen_le l
  rcases Nat.lt_or_ge k l.length with hlt | hge
  · have a2 : ¬ k < numLen l := fun hlt2 => by
      have h2 := List.not_of_lt_findIdx hlt2
      simp only [Bool.not_eq_false'] at h2
      rw [hs hlt] at h2; cases h2
    omega
  · omega
def numEnd (l : List UInt8) : Int := if numLen l = l.length then -1 else numLen l

set_option maxRecDepth 100000 in
set_option maxHeartbeats 2000000 in
theorem indexFunc_num (l : List UInt8) (w : World) :
    Calls Tryz.prog 205 #[.string ⟨l.toArray⟩, .func (.func 199) #[] #[], .bool true] w fun e w' => e = .returned (.int .i64 (numEnd l)) ∧ Below w.heap.size w w' := by
  have HN := Lib.hid (fun k => numLen_at (l := l) (k := k))
  go_enter Tryz.func205, Tryz.ntmps205
  go_wp2_with fail
  go_loopw [] (fun wr => ∃ pos : Nat, pos ≤ l.length ∧ wr.heap[w.heap.size]? = some (.stringIter ⟨l.toArray⟩ pos) ∧ Below w.heap.size w wr ∧ ∀ j (hj : j < l.length), j < pos → numB l[j] = true) (fun wr => l.length - wr.iterPos w.heap.size)
  case atStart => exact ⟨0, Nat.zero_le _, World.iter_heap w _ 0, (Below.refl _ w).alloc (Nat.le_refl _) _, fun j hj h => absurd h (by omega)⟩
  case round =>
    obtain ⟨pos, hpl, hit, hbw, hnum⟩ := hrel
    by_cases hp : pos < l.length
    · have hp' : pos < (⟨l.toArray⟩ : ByteArray).size := by simpa [ByteArray.size] using hp
      obtain ⟨c, hc⟩ : ∃ c, l[pos] = c := ⟨_, rfl⟩
      have hcc : (⟨l.toArray⟩ : ByteArray)[pos]'hp' = c := by rw [← hc]; rfl
      have hit0 : wr.iterPos w.heap.size = pos := by simp [World.iterPos, hit]
      by_cases h8 : c.toNat < 128
      · have hnx : ∀ ty, (Instr.next (.pointer (some ⟨w.heap.size, 0, none⟩)) true ty).run Tryz.prog wr = .ok (.tuple #[.bool true, .int .i64 pos, .int .i32 c.toNat]) (wr.iterAt w.heap.size ⟨l.toArray⟩ (pos + 1)) := by
          intro ty
          have := Lib.run_next_ascii_at (P := Tryz.prog) wr w.heap.size ⟨l.toArray⟩ pos ty hit hp' (by rw [hcc]; exact h8)
          rw [hcc] at this
          exact this
        have HIT2 := Lib.hid (Lib.iterAt_heap wr w.heap.size ⟨l.toArray⟩ pos (pos + 1) hit)
        have HB2 := Lib.hid (Lib.below_iterAt hbw (k := w.heap.size) (Nat.le_refl _) ⟨l.toArray⟩ (pos + 1))
        generalize (wr.iterAt w.heap.size ⟨l.toArray⟩ (pos + 1)) = W2 at *
        have hlt2 : w.heap.size < W2.heap.size := (Array.getElem?_eq_some_iff.1 HIT2.out).1
        have IN := Lib.hid (isNoNum_any c.toNat W2 (by omega))
        have HNUM := Lib.hid hnum
        have HI0 := Lib.hid hit0
        cases hb : numB c with
        | true =>
          rw [show numR c.toNat = true from hb] at IN
          have HX := Lib.hid (show ∀ j (hj : j < l.length), j < pos + 1 → numB l[j] = true from fun j hj hlt => (Nat.lt_or_ge j pos).elim (HNUM.out j hj) fun h' => by
            have : j = pos := by omega
            subst this
            rw [hc]; exact hb)
          clear hc hcc hit hbw hnum hb hit0
          go_wp2_with fail
          refine IN.out.mono ?_
          rintro e w3 ⟨rfl, hb3⟩
          have HIT3 := Lib.hid ((hb3.block _ hlt2).trans HIT2.out)
          have HB3 := Lib.hid (HB2.out.trans (hb3.mono (Nat.le_of_lt hlt2)))
          clear hb3
          go_wp2_with fail
          go_roundw
          case rel => exact ⟨pos + 1, hp, HIT3.out, HB3.out, HX.out⟩
          case measure =>
            rw [HI0.out]
            simp only [World.iterPos, HIT3.out]
            omega
        | false =>
          rw [show numR c.toNat = false from hb] at IN
          have HE := Lib.hid (show numEnd l = pos by
            have e := HN.out pos HNUM.out hpl (fun _ => by rw [hc]; exact hb)
            unfold numEnd
            rw [if_neg (by omega), e])
          clear hc hcc hit hbw hnum hb hit0
          go_wp2_with fail
          refine IN.out.mono ?_
          rintro e w3 ⟨rfl, hb3⟩
          have HB3 := Lib.hid (HB2.out.trans (hb3.mono (Nat.le_of_lt hlt2)))
          clear hb3
          go_wp2_with fail
          go_ret
          exact ⟨by rw [HE.out]; rfl, HB3.out⟩
      · have hnx : ∀ ty, (Instr.next (.pointer (some ⟨w.heap.size, 0, none⟩)) true ty).run Tryz.prog wr = _ := fun ty => Lib.run_next_any_at wr w.heap.size ⟨l.toArray⟩ pos ty hit hp'
        have hR8 := (decode_high ⟨l.toArray⟩ pos hp' (by rw [hcc]; omega)).1
        have hRl := Lib.rune_le ⟨l.toArray⟩ pos
        obtain ⟨R, hR⟩ : ∃ R, (Utf8.decode ⟨l.toArray⟩ pos).1 = R := ⟨_, rfl⟩
        obtain ⟨K, hK⟩ : ∃ K, (Utf8.decode ⟨l.toArray⟩ pos).2 = K := ⟨_, rfl⟩
        rw [hR, hK] at hnx
        rw [hR] at hR8 hRl
        have HIT2 := Lib.hid (Lib.iterAt_heap wr w.heap.size ⟨l.toArray⟩ pos (pos + K) hit)
        have HB2 := Lib.hid (Lib.below_iterAt hbw (k := w.heap.size) (Nat.le_refl _) ⟨l.toArray⟩ (pos + K))
        generalize (wr.iterAt w.heap.size ⟨l.toArray⟩ (pos + K)) = W2 at *
        have hlt2 : w.heap.size < W2.heap.size := (Array.getElem?_eq_some_iff.1 HIT2.out).1
        have IN := Lib.hid (isNoNum_any R W2 hRl)
        rw [show numR R = false by unfold numR; simp; omega] at IN
        have HE := Lib.hid (show numEnd l = pos by
          have e := HN.out pos hnum hpl (fun _ => by rw [hc]; unfold numB; simp; omega)
          unfold numEnd
          rw [if_neg (by omega), e])
        clear hc hcc hit hbw hnum hit0 hR hK
        go_wp2_with fail
        refine IN.out.mono ?_
        rintro e w3 ⟨rfl, hb3⟩
        have HB3 := Lib.hid (HB2.out.trans (hb3.mono (Nat.le_of_lt hlt2)))
        clear hb3
        go_wp2_with fail
        go_ret
        exact ⟨by rw [HE.out]; rfl, HB3.out⟩
    · have hnx : ∀ ty, (Instr.next (.pointer (some ⟨w.heap.size, 0, none⟩)) true ty).run Tryz.prog wr = .ok (.tuple #[.bool false]) wr := fun ty => Lib.run_next_end_at wr w.heap.size ⟨l.toArray⟩ pos ty hit (by simpa [ByteArray.size] using hp)
      have HE := Lib.hid (show numEnd l = -1 by
        have e := HN.out pos hnum hpl (fun h => absurd h hp)
        unfold numEnd
        rw [if_pos (by omega)])
      clear hit hnum
      go_wp2_with fail
      go_ret
      exact ⟨by rw [HE.out]; rfl, hbw⟩
set_option maxRecDepth 100000 in
set_option maxHeartbeats 2000000 in
theorem IndexFunc_num (l : List UInt8) (w : World) :
    Calls Tryz.prog 198 #[.string ⟨l.toArray⟩, .func (.func 199) #[] #[]] w fun e w' => e = .returned (.int .i64 (numEnd l)) ∧ Below w.heap.size w w' := by
  have I := Lib.hid (indexFunc_num l w)
  go_enter Tryz.func198, Tryz.ntmps198
  go_wp2_with fail
  refine I.out.mono ?_
  rintro e w1 ⟨rfl, hb⟩
  go_wp2_with fail
  go_ret
  exact ⟨rfl, hb⟩

theorem Rd.alloc {b : Nat} {t : List UInt8} {u v : World} (h : Rd b t u v) (o : Obj) : Rd b t u (v.alloc o) := h.below ((Below.refl _ v).alloc (Nat.le_refl _) o)
theorem Rd.put {b : Nat} {t : List UInt8} {u v : World} (h : Rd b t u v) {k : Nat} (hk : u.heap.size ≤ k) (hb : b < u.heap.size) (o : Nat) (x : Value) : Rd b t u (v.setCell ⟨k, o, none⟩ x) :=
  ⟨(Below.heap_setCell v ⟨k, o, none⟩ x b (by show b ≠ k; omega)).trans h.rd, h.bel.setCell (p := ⟨k, o, none⟩) (by show b ≤ k; omega) x, fun i hi hn => (Below.heap_setCell v ⟨k, o, none⟩ x i (by show i ≠ k; omega)).trans (h.oth i hi hn)⟩

set_option maxRecDepth 100000 in
set_option maxHeartbeats 4000000 in
theorem figure_allY (b : Nat) (l : List UInt8) (k : Nat) (n d : Int) (o : Option ((Int × Int) × List UInt8)) (w : World) (h : RdAt b l w) (_hl : l.length ≤ 90000) (_hk : k ≤ l.length)
    (IFN : ∀ W, Calls Tryz.prog 198 #[.string ⟨l.toArray⟩, .func (.func 199) #[] #[]] W fun e w' => e = .returned (.int .i64 (-1)) ∧ Below W.heap.size W w')
    (PA : ∀ W, Calls Tryz.prog 201 #[.string ⟨(l).toArray⟩] W fun e w' => e = .returned (.tuple #[.agg #[.int .i64 n, .int .i64 d], .int .i64 (0)]) ∧ Below W.heap.size W w')
    (ho : o = some ((n, d), [])) :
    Calls Tryz.prog 186 #[.pointer (some ⟨b, 0, none⟩)] w fun e w' => Got b w o (fun x _ v => v = .agg #[.int .i64 x.1, .int .i64 x.2]) e w' := by
  have c0 := h.cell
  have f0 := h.frozen
  have hbw := h.lt
  have HR0 := Lib.hid (Rd.refl h)
  have HIF := Lib.hid IFN
  have HPA := Lib.hid PA
  have HT := ext_front l k
  have HD := ext_rest l k
  have HO := Lib.hid ho
  clear h IFN PA ho
  clear HD HT
  have HT : (⟨l.toArray⟩ : ByteArray).extract 0 l.length = ⟨l.toArray⟩ := by have := ext_front l l.length; rwa [List.take_length] at this
  go_enter Tryz.func186, Tryz.ntmps186
  go_wp2_with fail
  refine (HIF.out _).mono ?_
  rintro e w1 ⟨rfl, hb1⟩
  have k1 : w1.heap[w.heap.size]? = some (.cells #[.int .i64 0, .int .i64 0] 188 (0, 0)) := (hb1.block _ (by simp)).trans (World.alloc_heap_new _ _)
  have R1 := Lib.hid ((show Rd b l w (w.alloc (.cells #[.int .i64 0, .int .i64 0] 188)) from ⟨(Below.heap_alloc w _ b hbw).trans HR0.out.rd, (Below.refl _ w).alloc (Nat.le_of_lt hbw) _, fun i hi _ => Below.heap_alloc w _ i hi⟩).below hb1)
  have hs1 := hb1.size
  simp at hs1
  have K1 := Lib.hid k1
  clear hb1 k1
  have c1 := R1.out.rd.cell
  go_wp2_with fail
  refine (HPA.out _).mono ?_
  rintro e w2 ⟨rfl, hb2⟩
  have K2 := Lib.hid ((hb2.block _ (by omega)).trans K1.out)
  have R2 := Lib.hid (R1.out.below hb2)
  have hs2 := hb2.size
  clear hb2
  have c2 := R2.out.rd.cell
  have f2 := R2.out.rd.frozen
  have x0 : w2.cell? ⟨w.heap.size, 0, none⟩ = some (.int .i64 0) := cell_of_block K2.out rfl
  have x1 : w2.cell? ⟨w.heap.size, 1, none⟩ = some (.int .i64 0) := cell_of_block K2.out rfl
  have y0 := frozen_of_block (o := 0) K2.out
  have y1 := frozen_of_block (o := 1) K2.out
  have n1 : ¬ b = w.heap.size := by omega
  have n2 : ¬ b = w2.heap.size := by omega
  have n3 : ¬ w.heap.size = w2.heap.size := by omega
  have n4 : ¬ w.heap.size = b := by omega
  have n5 : ¬ w2.heap.size = b := by omega
  have n6 : ¬ w2.heap.size = w.heap.size := by omega
  have n7 : b < w2.heap.size := by omega
  have n8 : w.heap.size < w2.heap.size := by omega
  clear c1
  go_wp2_with fail
  refine bodyPost_ret (v := .agg #[.int .i64 n, .int .i64 d]) (by simp (maxDischargeDepth := 8) [results, Tryz.results186, go_sem, *]) rfl ?_
  exact .yes HO.out rfl ((((R2.out.set ([])).put (Nat.le_refl _) hbw 0 _).put (Nat.le_refl _) hbw 1 _).alloc _)
set_option maxRecDepth 100000 in
set_option maxHeartbeats 4000000 in
theorem figure_allN (b : Nat) (l : List UInt8) (k : Nat) (n d : Int) (o : Option ((Int × Int) × List UInt8)) (w : World) (h : RdAt b l w) (_hl : l.length ≤ 90000) (_hk : k ≤ l.length)
    (IFN : ∀ W, Calls Tryz.prog 198 #[.string ⟨l.toArray⟩, .func (.func 199) #[] #[]] W fun e w' => e = .returned (.int .i64 (-1)) ∧ Below W.heap.size W w')
    (er : Int) (her : er ≠ 0) (PA : ∀ W, Calls Tryz.prog 201 #[.string ⟨(l).toArray⟩] W fun e w' => e = .returned (.tuple #[.agg #[.int .i64 n, .int .i64 d], .int .i64 (er)]) ∧ Below W.heap.size W w')
    (ho : o = none) :
    Calls Tryz.prog 186 #[.pointer (some ⟨b, 0, none⟩)] w fun e w' => Got b w o (fun x _ v => v = .agg #[.int .i64 x.1, .int .i64 x.2]) e w' := by
  have c0 := h.cell
  have f0 := h.frozen
  have hbw := h.lt
  have HR0 := Lib.hid (Rd.refl h)
  have HIF := Lib.hid IFN
  have HPA := Lib.hid PA
  have HT := ext_front l k
  have HD := ext_rest l k
  have HO := Lib.hid ho
  clear h IFN PA ho
  clear HD HT
  have HT : (⟨l.toArray⟩ : ByteArray).extract 0 l.length = ⟨l.toArray⟩ := by have := ext_front l l.length; rwa [List.take_length] at this
  have her0 : (er != 0) = true := by simpa using her
  go_enter Tryz.func186, Tryz.ntmps186
  go_wp2_with fail
  refine (HIF.out _).mono ?_
  rintro e w1 ⟨rfl, hb1⟩
  have k1 : w1.heap[w.heap.size]? = some (.cells #[.int .i64 0, .int .i64 0] 188 (0, 0)) := (hb1.block _ (by simp)).trans (World.alloc_heap_new _ _)
  have R1 := Lib.hid ((show Rd b l w (w.alloc (.cells #[.int .i64 0, .int .i64 0] 188)) from ⟨(Below.heap_alloc w _ b hbw).trans HR0.out.rd, (Below.refl _ w).alloc (Nat.le_of_lt hbw) _, fun i hi _ => Below.heap_alloc w _ i hi⟩).below hb1)
  have hs1 := hb1.size
  simp at hs1
  have K1 := Lib.hid k1
  clear hb1 k1
  have c1 := R1.out.rd.cell
  go_wp2_with fail
  refine (HPA.out _).mono ?_
  rintro e w2 ⟨rfl, hb2⟩
  have K2 := Lib.hid ((hb2.block _ (by omega)).trans K1.out)
  have R2 := Lib.hid (R1.out.below hb2)
  have hs2 := hb2.size
  clear hb2
  have c2 := R2.out.rd.cell
  have f2 := R2.out.rd.frozen
  have x0 : w2.cell? ⟨w.heap.size, 0, none⟩ = some (.int .i64 0) := cell_of_block K2.out rfl
  have x1 : w2.cell? ⟨w.heap.size, 1, none⟩ = some (.int .i64 0) := cell_of_block K2.out rfl
  have y0 := frozen_of_block (o := 0) K2.out
  have y1 := frozen_of_block (o := 1) K2.out
  have n1 : ¬ b = w.heap.size := by omega
  have n2 : ¬ b = w2.heap.size := by omega
  have n3 : ¬ w.heap.size = w2.heap.size := by omega
  have n4 : ¬ w.heap.size = b := by omega
  have n5 : ¬ w2.heap.size = b := by omega
  have n6 : ¬ w2.heap.size = w.heap.size := by omega
  have n7 : b < w2.heap.size := by omega
  have n8 : w.heap.size < w2.heap.size := by omega
  clear c1
  go_wp2_with fail
  exact ⟨rfl, .no HO.out ((R2.out.alloc _))⟩
set_option maxRecDepth 100000 in
set_option maxHeartbeats 4000000 in
theorem figure_partY (b : Nat) (l : List UInt8) (k : Nat) (n d : Int) (o : Option ((Int × Int) × List UInt8)) (w : World) (h : RdAt b l w) (_hl : l.length ≤ 90000) (hk : k ≤ l.length)
    (IFN : ∀ W, Calls Tryz.prog 198 #[.string ⟨l.toArray⟩, .func (.func 199) #[] #[]] W fun e w' => e = .returned (.int .i64 k) ∧ Below W.heap.size W w')
    (PA : ∀ W, Calls Tryz.prog 201 #[.string ⟨(l.take k).toArray⟩] W fun e w' => e = .returned (.tuple #[.agg #[.int .i64 n, .int .i64 d], .int .i64 (0)]) ∧ Below W.heap.size W w')
    (ho : o = some ((n, d), l.drop k)) :
    Calls Tryz.prog 186 #[.pointer (some ⟨b, 0, none⟩)] w fun e w' => Got b w o (fun x _ v => v = .agg #[.int .i64 x.1, .int .i64 x.2]) e w' := by
  have c0 := h.cell
  have f0 := h.frozen
  have hbw := h.lt
  have HR0 := Lib.hid (Rd.refl h)
  have HIF := Lib.hid IFN
  have HPA := Lib.hid PA
  have HT := ext_front l k
  have HD := ext_rest l k
  have HO := Lib.hid ho
  clear h IFN PA ho
  go_enter Tryz.func186, Tryz.ntmps186
  go_wp2_with fail
  refine (HIF.out _).mono ?_
  rintro e w1 ⟨rfl, hb1⟩
  have k1 : w1.heap[w.heap.size]? = some (.cells #[.int .i64 0, .int .i64 0] 188 (0, 0)) := (hb1.block _ (by simp)).trans (World.alloc_heap_new _ _)
  have R1 := Lib.hid ((show Rd b l w (w.alloc (.cells #[.int .i64 0, .int .i64 0] 188)) from ⟨(Below.heap_alloc w _ b hbw).trans HR0.out.rd, (Below.refl _ w).alloc (Nat.le_of_lt hbw) _, fun i hi _ => Below.heap_alloc w _ i hi⟩).below hb1)
  have hs1 := hb1.size
  simp at hs1
  have K1 := Lib.hid k1
  clear hb1 k1
  have c1 := R1.out.rd.cell
  go_wp2_with fail
  refine (HPA.out _).mono ?_
  rintro e w2 ⟨rfl, hb2⟩
  have K2 := Lib.hid ((hb2.block _ (by omega)).trans K1.out)
  have R2 := Lib.hid (R1.out.below hb2)
  have hs2 := hb2.size
  clear hb2
  have c2 := R2.out.rd.cell
  have f2 := R2.out.rd.frozen
  have x0 : w2.cell? ⟨w.heap.size, 0, none⟩ = some (.int .i64 0) := cell_of_block K2.out rfl
  have x1 : w2.cell? ⟨w.heap.size, 1, none⟩ = some (.int .i64 0) := cell_of_block K2.out rfl
  have y0 := frozen_of_block (o := 0) K2.out
  have y1 := frozen_of_block (o := 1) K2.out
  have n1 : ¬ b = w.heap.size := by omega
  have n2 : ¬ b = w2.heap.size := by omega
  have n3 : ¬ w.heap.size = w2.heap.size := by omega
  have n4 : ¬ w.heap.size = b := by omega
  have n5 : ¬ w2.heap.size = b := by omega
  have n6 : ¬ w2.heap.size = w.heap.size := by omega
  have n7 : b < w2.heap.size := by omega
  have n8 : w.heap.size < w2.heap.size := by omega
  clear c1
  go_wp2_with fail
  refine bodyPost_ret (v := .agg #[.int .i64 n, .int .i64 d]) (by simp (maxDischargeDepth := 8) [results, Tryz.results186, go_sem, *]) rfl ?_
  exact .yes HO.out rfl ((((R2.out.set (l.drop k)).put (Nat.le_refl _) hbw 0 _).put (Nat.le_refl _) hbw 1 _).alloc _)
set_option maxRecDepth 100000 in
set_option maxHeartbeats 4000000 in
theorem figure_partN (b : Nat) (l : List UInt8) (k : Nat) (n d : Int) (o : Option ((Int × Int) × List UInt8)) (w : World) (h : RdAt b l w) (_hl : l.length ≤ 90000) (hk : k ≤ l.length)
    (IFN : ∀ W, Calls Tryz.prog 198 #[.string ⟨l.toArray⟩, .func (.func 199) #[] #[]] W fun e w' => e = .returned (.int .i64 k) ∧ Below W.heap.size W w')
    (er : Int) (her : er ≠ 0) (PA : ∀ W, Calls Tryz.prog 201 #[.string ⟨(l.take k).toArray⟩] W fun e w' => e = .returned (.tuple #[.agg #[.int .i64 n, .int .i64 d], .int .i64 (er)]) ∧ Below W.heap.size W w')
    (ho : o = none) :
    Calls Tryz.prog 186 #[.pointer (some ⟨b, 0, none⟩)] w fun e w' => Got b w o (fun x _ v => v = .agg #[.int .i64 x.1, .int .i64 x.2]) e w' := by
  have c0 := h.cell
  have f0 := h.frozen
  have hbw := h.lt
  have HR0 := Lib.hid (Rd.refl h)
  have HIF := Lib.hid IFN
  have HPA := Lib.hid PA
  have HT := ext_front l k
  have HD := ext_rest l k
  have HO := Lib.hid ho
  clear h IFN PA ho
  have her0 : (er != 0) = true := by simpa using her
  go_enter Tryz.func186, Tryz.ntmps186
  go_wp2_with fail
  refine (HIF.out _).mono ?_
  rintro e w1 ⟨rfl, hb1⟩
  have k1 : w1.heap[w.heap.size]? = some (.cells #[.int .i64 0, .int .i64 0] 188 (0, 0)) := (hb1.block _ (by simp)).trans (World.alloc_heap_new _ _)
  have R1 := Lib.hid ((show Rd b l w (w.alloc (.cells #[.int .i64 0, .int .i64 0] 188)) from ⟨(Below.heap_alloc w _ b hbw).trans HR0.out.rd, (Below.refl _ w).alloc (Nat.le_of_lt hbw) _, fun i hi _ => Below.heap_alloc w _ i hi⟩).below hb1)
  have hs1 := hb1.size
  simp at hs1
  have K1 := Lib.hid k1
  clear hb1 k1
  have c1 := R1.out.rd.cell
  go_wp2_with fail
  refine (HPA.out _).mono ?_
  rintro e w2 ⟨rfl, hb2⟩
  have K2 := Lib.hid ((hb2.block _ (by omega)).trans K1.out)
  have R2 := Lib.hid (R1.out.below hb2)
  have hs2 := hb2.size
  clear hb2
  have c2 := R2.out.rd.cell
  have f2 := R2.out.rd.frozen
  have x0 : w2.cell? ⟨w.heap.size, 0, none⟩ = some (.int .i64 0) := cell_of_block K2.out rfl
  have x1 : w2.cell? ⟨w.heap.size, 1, none⟩ = some (.int .i64 0) := cell_of_block K2.out rfl
  have y0 := frozen_of_block (o := 0) K2.out
  have y1 := frozen_of_block (o := 1) K2.out
  have n1 : ¬ b = w.heap.size := by omega
  have n2 : ¬ b = w2.heap.size := by omega
  have n3 : ¬ w.heap.size = w2.heap.size := by omega
  have n4 : ¬ w.heap.size = b := by omega
  have n5 : ¬ w2.heap.size = b := by omega
  have n6 : ¬ w2.heap.size = w.heap.size := by omega
  have n7 : b < w2.heap.size := by omega
  have n8 : w.heap.size < w2.heap.size := by omega
  clear c1
  go_wp2_with fail
  exact ⟨rfl, .no HO.out ((R2.out.alloc _))⟩
theorem figure_any (b : Nat) (l : List UInt8) (w : World) (h : RdAt b l w) (hl : l.length ≤ 90000) :
    Calls Tryz.prog 186 #[.pointer (some ⟨b, 0, none⟩)] w fun e w' => Got b w (figP l) (fun x _ v => v = .agg #[.int .i64 x.1, .int .i64 x.2]) e w' := by
  have hle := numLen_le l
  have PA := fun W => parse_any (l.take (numLen l)) W (by simp; omega)
  have IFN := fun W => IndexFunc_num l W
  have HF : figP l = if (parseT (l.take (numLen l))).2.2 = 0 then some (((parseT (l.take (numLen l))).1, (parseT (l.take (numLen l))).2.1), l.drop (numLen l)) else none := rfl
  generalize parseT (l.take (numLen l)) = r at *
  obtain ⟨n, d, er⟩ := r
  unfold numEnd at IFN
  by_cases hk : numLen l = l.length
  · rw [if_pos hk] at IFN
    rw [hk, List.take_length] at PA
    rw [hk, List.drop_length] at HF
    by_cases he : er = 0
    · subst he
      exact figure_allY b l l.length n d _ w h hl (Nat.le_refl _) IFN PA (HF.trans (if_pos rfl))
    · exact figure_allN b l l.length n d _ w h hl (Nat.le_refl _) IFN er he PA (HF.trans (if_neg he))
  · rw [if_neg hk] at IFN
    by_cases he : er = 0
    · subst he
      exact figure_partY b l (numLen l) n d _ w h hl hle IFN PA (HF.trans (if_pos rfl))
    · exact figure_partN b l (numLen l) n d _ w h hl hle IFN er he PA (HF.trans (if_neg he))
end Go.Proofs.YtcgedpfolloinaaGreat

namespace Go.Proofs.YtcgedpfolloinaaGreat
open Go.RowKit

/-- the value of what a tree begins with. -/
def BegV (h : Hd) (v : Value) : Prop :=
  (∃ s : List UInt8, h = ⟨0, s, [], 0, 0, []⟩ ∧ v = .iface 200 (.string ⟨s.toArray⟩)) ∨
  (∃ n d : Int, h = ⟨1, [], [], n, d, []⟩ ∧ v = .iface 188 (.agg #[.int .i64 n, .int .i64 d])) ∨
  (∃ s : List UInt8, h = ⟨2, [], [], 0, 0, s⟩ ∧ v = .iface 189 (.string ⟨s.toArray⟩))
def hdV (h : Hd) (aa : Option Addr) (ca : Nat) : Value := .agg #[.int .i64 h.k, .string ⟨h.l.toArray⟩, .slice aa h.ats.length ca, .int .i64 h.n, .int .i64 h.d, .string ⟨h.x.toArray⟩]

set_option maxRecDepth 100000 in
set_option maxHeartbeats 1000000 in
theorem word_head (s : List UInt8) (w : World) : Calls Tryz.prog 242 #[.string ⟨s.toArray⟩] w fun e w' => e = .returned (hdV ⟨0, s, [], 0, 0, []⟩ none 0) ∧ Below w.heap.size w w' := by
  go_enter Tryz.func242, Tryz.ntmps242
  go_wp2
  refine bodyPost_ret (v := .agg #[.int .i64 0, .string ⟨s.toArray⟩, .slice none 0 0, .int .i64 0, .int .i64 0, .string ByteArray.empty]) (by simp (maxDischargeDepth := 8) [results, Tryz.results242, go_sem, *]; rfl) rfl ?_
  exact ⟨rfl, by ((repeat' (first | exact Below.refl _ _ | assumption | refine Below.setCell ?_ ?_ _ | refine bdrewN ?_ _ | refine Below.drew ?_ | refine Below.alloc ?_ ?_ _ | refine bbehind ?_ (by assumption) ?_)); all_goals first | (simp; done) | (simp; omega) | omega)⟩
set_option maxRecDepth 100000 in
set_option maxHeartbeats 1000000 in
theorem quoted_head (s : List UInt8) (w : World) : Calls Tryz.prog 241 #[.string ⟨s.toArray⟩] w fun e w' => e = .returned (hdV ⟨2, [], [], 0, 0, s⟩ none 0) ∧ Below w.heap.size w w' := by
  go_enter Tryz.func241, Tryz.ntmps241
  go_wp2
  refine bodyPost_ret (v := .agg #[.int .i64 2, .string ByteArray.empty, .slice none 0 0, .int .i64 0, .int .i64 0, .string ⟨s.toArray⟩]) (by simp (maxDischargeDepth := 8) [results, Tryz.results241, go_sem, *]; rfl) rfl ?_
  exact ⟨rfl, by ((repeat' (first | exact Below.refl _ _ | assumption | refine Below.setCell ?_ ?_ _ | refine bdrewN ?_ _ | refine Below.drew ?_ | refine Below.alloc ?_ ?_ _ | refine bbehind ?_ (by assumption) ?_)); all_goals first | (simp; done) | (simp; omega) | omega)⟩
set_option maxRecDepth 100000 in
set_option maxHeartbeats 1000000 in
theorem figure_head (n d : Int) (w : World) : Calls Tryz.prog 240 #[.agg #[.int .i64 n, .int .i64 d]] w fun e w' => e = .returned (hdV ⟨1, [], [], n, d, []⟩ none 0) ∧ Below w.heap.size w w' := by
  go_enter Tryz.func240, Tryz.ntmps240
  go_wp2
  refine bodyPost_ret (v := .agg #[.int .i64 1, .string ByteArray.empty, .slice none 0 0, .int .i64 n, .int .i64 d, .string ByteArray.empty]) (by simp (maxDischargeDepth := 8) [results, Tryz.results240, go_sem, *]; rfl) rfl ?_
  exact ⟨rfl, by ((repeat' (first | exact Below.refl _ _ | assumption | refine Below.setCell ?_ ?_ _ | refine bdrewN ?_ _ | refine Below.drew ?_ | refine Below.alloc ?_ ?_ _ | refine bbehind ?_ (by assumption) ?_)); all_goals first | (simp; done) | (simp; omega) | omega)⟩

set_option maxRecDepth 100000 in
set_option maxHeartbeats 2000000 in
theorem begin_any (b : Nat) (l : List UInt8) (w : World) (h : RdAt b l w) (hl : l.length ≤ 90000) :
    Calls Tryz.prog 177 #[.pointer (some ⟨b, 0, none⟩)] w fun e w' => Got b w (beginP l) (fun x _ v => BegV x v) e w' := by
  cases l with
  | nil =>
    have L := Lib.hid (look_no b w h)
    have R0 := Lib.hid (Rd.refl h)
    have HO := Lib.hid (show beginP [] = none from rfl)
    clear h
    go_enter Tryz.func177, Tryz.ntmps177
    go_wp2_with fail
    refine L.out.mono ?_
    rintro e w1 ⟨rfl, hb⟩
    have R1 := Lib.hid (R0.out.below hb)
    clear hb
    go_wp2_with fail
    exact ⟨rfl, .no HO.out R1.out⟩
  | cons c t =>
    have L := Lib.hid (look_yes b c t w h)
    have D := Lib.hid (tdigit_any c)
    by_cases h34 : c.toNat = 34
    · have Q := Lib.hid (rquoted_any b (c :: t) w h (by omega))
      have HO := Lib.hid (show beginP (c :: t) = (quoP (c :: t)).map fun x => (⟨2, [], [], 0, 0, x.1⟩, x.2) by unfold beginP; simp [h34])
      have e1 : ((c.toNat : Int) == 34) = true := by simp [h34]
      clear h h34
      generalize c :: t = l at *
      generalize beginP l = o at *
      go_enter Tryz.func177, Tryz.ntmps177
      go_wp2_with fail
      refine L.out.mono ?_
      rintro e w1 ⟨rfl, hw⟩
      obtain rfl := hw.symm
      go_wp2_with fail
      refine Q.out.mono ?_
      rintro e w2 hq
      cases hqo : quoP l with
      | none =>
        have HN := Lib.hid (HO.out.trans (by rw [hqo] <;> rfl))
        obtain ⟨rfl, t2, hr⟩ := hq.panic hqo
        have HR := Lib.hid hr
        clear hr hq hqo
        go_wp2_with fail
        exact ⟨rfl, .no HN.out HR.out⟩
      | some x =>
        obtain ⟨s, r⟩ := x
        have HN := Lib.hid (HO.out.trans (by rw [hqo] <;> rfl))
        obtain ⟨v, rfl, rfl, hr⟩ := hq.take hqo
        have HR := Lib.hid hr
        clear hr hq hqo
        go_wp2_with fail
        go_ret
        exact .yes HN.out (.inr (.inr ⟨s, rfl, rfl⟩)) HR.out
    · have e1 : ((c.toNat : Int) == 34) = false := by simp; omega
      by_cases hd : c.toNat = 45 ∨ digitB c = true
      · have Q := Lib.hid (figure_any b (c :: t) w h hl)
        have HO := Lib.hid (show beginP (c :: t) = (figP (c :: t)).map fun x => (⟨1, [], [], x.1.1, x.1.2, []⟩, x.2) by unfold beginP; simp only [if_neg h34, if_pos hd])
        have fin : ∀ (o : Option (Hd × List UInt8)) (oq : Option ((Int × Int) × List UInt8)), o = oq.map (fun x => (⟨1, [], [], x.1.1, x.1.2, []⟩, x.2)) → (∀ n d r, oq = some ((n, d), r) → o = some (⟨1, [], [], n, d, []⟩, r)) ∧ (oq = none → o = none) := by
          rintro o oq rfl
          exact ⟨fun n d r e => by rw [e]; rfl, fun e => by rw [e]; rfl⟩
        have HF := Lib.hid (fin _ _ HO.out)
        clear HO fin
        by_cases h45 : c.toNat = 45
        · have e2 : ((c.toNat : Int) == 45) = true := by simp [h45]
          clear h h34 hd h45 D
          generalize c :: t = l at *
          generalize beginP l = o at *
          go_enter Tryz.func177, Tryz.ntmps177
          go_wp2_with fail
          refine L.out.mono ?_
          rintro e w1 ⟨rfl, hw⟩
          obtain rfl := hw.symm
          go_wp2_with fail
          refine Q.out.mono ?_
          rintro e w2 hq
          cases hqo : figP l with
          | none =>
            have HN := Lib.hid (HF.out.2 hqo)
            obtain ⟨rfl, t2, hr⟩ := hq.panic hqo
            have HR := Lib.hid hr
            clear hr hq hqo
            go_wp2_with fail
            exact ⟨rfl, .no HN.out HR.out⟩
          | some x =>
            obtain ⟨⟨n, d⟩, r⟩ := x
            have HN := Lib.hid (HF.out.1 n d r hqo)
            obtain ⟨v, rfl, rfl, hr⟩ := hq.take hqo
            have HR := Lib.hid hr
            clear hr hq hqo
            go_wp2_with fail
            go_ret
            exact .yes HN.out (.inr (.inl ⟨n, d, rfl, rfl⟩)) HR.out
        · have e2 : ((c.toNat : Int) == 45) = false := by simp; omega
          have hdd : digitB c = true := hd.resolve_left h45
          rw [hdd] at D
          clear h h34 hd h45 hdd
          generalize c :: t = l at *
          generalize beginP l = o at *
          go_enter Tryz.func177, Tryz.ntmps177
          go_wp2_with fail
          refine L.out.mono ?_
          rintro e w1 ⟨rfl, hw⟩
          obtain rfl := hw.symm
          go_wp2_with fail
          refine (D.out _).mono ?_
          rintro e w1 ⟨rfl, rfl⟩
          go_wp2_with fail
          refine Q.out.mono ?_
          rintro e w2 hq
          cases hqo : figP l with
          | none =>
            have HN := Lib.hid (HF.out.2 hqo)
            obtain ⟨rfl, t2, hr⟩ := hq.panic hqo
            have HR := Lib.hid hr
            clear hr hq hqo
            go_wp2_with fail
            exact ⟨rfl, .no HN.out HR.out⟩
          | some x =>
            obtain ⟨⟨n, d⟩, r⟩ := x
            have HN := Lib.hid (HF.out.1 n d r hqo)
            obtain ⟨v, rfl, rfl, hr⟩ := hq.take hqo
            have HR := Lib.hid hr
            clear hr hq hqo
            go_wp2_with fail
            go_ret
            exact .yes HN.out (.inr (.inl ⟨n, d, rfl, rfl⟩)) HR.out
      · have e2 : ((c.toNat : Int) == 45) = false := by simp; omega
        have hdd : digitB c = false := by cases hx : digitB c with | true => exact absurd (.inr hx) hd | false => rfl
        rw [hdd] at D
        have HO := Lib.hid (show beginP (c :: t) = if wordLen (c :: t) = 0 then none else some (⟨0, (c :: t).take (wordLen (c :: t)), [], 0, 0, []⟩, (c :: t).drop (wordLen (c :: t))) by unfold beginP; simp only [if_neg h34, if_neg hd])
        have R0 := Lib.hid (Rd.refl h)
        by_cases hw0 : wordLen (c :: t) = 0
        · have WN := Lib.hid (word_no b (c :: t) w h (by omega) hw0)
          have HN := Lib.hid (HO.out.trans (if_pos hw0))
          clear h h34 hd hdd hw0 HO
          generalize c :: t = l at *
          generalize beginP l = o at *
          go_enter Tryz.func177, Tryz.ntmps177
          go_wp2_with fail
          refine L.out.mono ?_
          rintro e w1 ⟨rfl, hw⟩
          obtain rfl := hw.symm
          go_wp2_with fail
          refine (D.out _).mono ?_
          rintro e w1 ⟨rfl, rfl⟩
          go_wp2_with fail
          refine WN.out.mono ?_
          rintro e w2 ⟨rfl, hb⟩
          have R1 := Lib.hid (R0.out.below hb)
          clear hb
          go_wp2_with fail
          exact ⟨rfl, .no HN.out R1.out⟩
        · have WY := Lib.hid (word_yes b (c :: t) w h (by omega) hw0)
          have HN := Lib.hid (HO.out.trans (if_neg hw0))
          clear h h34 hd hdd hw0 HO
          generalize c :: t = l at *
          generalize beginP l = o at *
          go_enter Tryz.func177, Tryz.ntmps177
          go_wp2_with fail
          refine L.out.mono ?_
          rintro e w1 ⟨rfl, hw⟩
          obtain rfl := hw.symm
          go_wp2_with fail
          refine (D.out _).mono ?_
          rintro e w1 ⟨rfl, rfl⟩
          go_wp2_with fail
          refine WY.out.mono ?_
          rintro e w2 ⟨rfl, hw⟩
          obtain rfl := hw.symm
          have R2 := Lib.hid (R0.out.set (l.drop (wordLen l)))
          go_wp2_with fail
          go_ret
          exact .yes HN.out (.inl ⟨_, rfl, rfl⟩) R2.out
end Go.Proofs.YtcgedpfolloinaaGreat

namespace Go.Proofs.YtcgedpfolloinaaGreat
open Go.RowKit

set_option maxRecDepth 100000 in
set_option maxHeartbeats 2000000 in
theorem attribute_any (b : Nat) (l : List UInt8) (w : World) (h : RdAt b l w) (hl : l.length ≤ 90000) :
    Calls Tryz.prog 188 #[.pointer (some ⟨b, 0, none⟩)] w fun e w' => Got b w (attrP l) (fun x _ v => v = .agg #[.string ⟨x.1.toArray⟩, .string ⟨x.2.toArray⟩]) e w' := by
  have hbw := h.lt
  have hb0 : RdAt b l (w.alloc (.cells #[.string ⟨([] : List UInt8).toArray⟩, .string ⟨([] : List UInt8).toArray⟩] 81)) := (Below.heap_alloc w _ b hbw).trans h
  have R0 := Lib.hid ((Rd.refl h).alloc (.cells #[.string ⟨([] : List UInt8).toArray⟩, .string ⟨([] : List UInt8).toArray⟩] 81))
  by_cases hw0 : wordLen l = 0
  · have HN := Lib.hid (show attrP l = none by unfold attrP; rw [if_pos hw0])
    have WN := Lib.hid (word_no b l _ hb0 (by omega) hw0)
    clear h hb0 hw0
    go_enter Tryz.func188, Tryz.ntmps188
    go_wp2_with fail
    refine WN.out.mono ?_
    rintro e w2 ⟨rfl, hb⟩
    have R1 := Lib.hid (R0.out.below hb)
    clear hb
    go_wp2_with fail
    exact ⟨rfl, .no HN.out R1.out⟩
  have WY := Lib.hid (word_yes b l _ hb0 (by omega) hw0)
  have R2 := Lib.hid (R0.out.set (l.drop (wordLen l)))
  have hlen : (l.drop (wordLen l)).length ≤ 90000 := by simp; omega
  by_cases hq : (l.drop (wordLen l)).head? = some 61
  · obtain ⟨t, ht⟩ : ∃ t, l.drop (wordLen l) = 61 :: t := by
      cases hd : l.drop (wordLen l) with
      | nil => rw [hd] at hq; cases hq
      | cons c t => rw [hd] at hq; exact ⟨t, by rw [show c = 61 by simpa using hq]⟩
    rw [ht] at R2 hlen WY
    have htl : t.length ≤ 90000 := by simp at hlen; omega
    have HO := Lib.hid (show attrP l = (quoP t).map fun x => ((l.take (wordLen l), x.1), x.2) by unfold attrP; rw [if_neg hw0, ht]; simp)
    generalize l.take (wordLen l) = nm at *
    generalize attrP l = o at *
    clear h hb0 hw0 hq ht hlen
    go_enter Tryz.func188, Tryz.ntmps188
    go_wp2_with fail
    refine WY.out.mono ?_
    rintro e w2 ⟨rfl, hw⟩
    obtain rfl := hw.symm
    have KW := Lib.hid (show ((w.alloc (.cells #[.string ⟨([] : List UInt8).toArray⟩, .string ⟨([] : List UInt8).toArray⟩] 81)).setCell ⟨b, 0, none⟩ (.string ⟨(61 :: t).toArray⟩)).heap[w.heap.size]? = some (.cells #[.string ⟨([] : List UInt8).toArray⟩, .string ⟨([] : List UInt8).toArray⟩] 81 (0, 0)) from
      (Below.heap_setCell _ _ _ _ (by show w.heap.size ≠ b; omega)).trans (World.alloc_heap_new _ _))
    generalize (w.alloc (.cells #[.string ⟨([] : List UInt8).toArray⟩, .string ⟨([] : List UInt8).toArray⟩] 81)).setCell ⟨b, 0, none⟩ (.string ⟨(61 :: t).toArray⟩) = w2 at *
    go_wp2_with fail
    refine (expect_yes b 61 t _ R2.out.rd (by omega)).mono ?_
    rintro e w3 ⟨rfl, hw⟩
    obtain rfl := hw.symm
    have R3 := Lib.hid (R2.out.set t)
    have K3 := Lib.hid ((Below.heap_setCell w2 ⟨b, 0, none⟩ (.string ⟨t.toArray⟩) w.heap.size (by show w.heap.size ≠ b; omega)).trans KW.out)
    generalize w2.setCell ⟨b, 0, none⟩ (.string ⟨t.toArray⟩) = w3 at *
    have hlt3 : w.heap.size < w3.heap.size := (Array.getElem?_eq_some_iff.1 K3.out).1
    go_wp2_with fail
    refine (rquoted_any b t _ R3.out.rd (by omega)).mono ?_
    rintro e w4 hq
    cases hqo : quoP t with
    | none =>
      have HN := Lib.hid (HO.out.trans (by rw [hqo] <;> rfl))
      obtain ⟨rfl, t2, hr⟩ := hq.panic hqo
      have HR := Lib.hid (R3.out.trans hr)
      clear hr hq hqo
      go_wp2_with fail
      exact ⟨rfl, .no HN.out HR.out⟩
    | some x =>
      obtain ⟨s, r⟩ := x
      have HN := Lib.hid (HO.out.trans (by rw [hqo] <;> rfl))
      obtain ⟨v, rfl, rfl, hr⟩ := hq.take hqo
      have HR := Lib.hid (R3.out.trans hr)
      have k4 := (hr.oth _ hlt3 (by omega)).trans K3.out
      have x0 : w4.cell? ⟨w.heap.size, 0, none⟩ = some (.string ⟨([] : List UInt8).toArray⟩) := cell_of_block k4 rfl
      have x1 : w4.cell? ⟨w.heap.size, 1, none⟩ = some (.string ⟨([] : List UInt8).toArray⟩) := cell_of_block k4 rfl
      have y0 := frozen_of_block (o := 0) k4
      have y1 := frozen_of_block (o := 1) k4
      clear hr hq hqo k4
      go_wp2_with fail
      refine bodyPost_ret (v := .agg #[.string ⟨nm.toArray⟩, .string ⟨s.toArray⟩]) (by simp (maxDischargeDepth := 8) [results, Tryz.results188, go_sem, *]) rfl ?_
      exact .yes HN.out rfl ((HR.out.put (Nat.le_refl _) hbw 0 _).put (Nat.le_refl _) hbw 1 _)
  · have HN := Lib.hid (show attrP l = none by
      unfold attrP
      rw [if_neg hw0]
      cases hd : l.drop (wordLen l) with
      | nil => rfl
      | cons c t =>
        rw [hd] at hq
        simp only
        rw [if_neg fun e => hq (by rw [show c = 61 from UInt8.toNat_inj.1 (by rw [e]; rfl)]; rfl)])
    have EN := Lib.hid (fun W (hW : RdAt b (l.drop (wordLen l)) W) => expect_no b 61 _ W hW hq)
    clear h hb0 hw0 hq
    go_enter Tryz.func188, Tryz.ntmps188
    go_wp2_with fail
    refine WY.out.mono ?_
    rintro e w2 ⟨rfl, hw⟩
    obtain rfl := hw.symm
    generalize (w.alloc (.cells #[.string ⟨([] : List UInt8).toArray⟩, .string ⟨([] : List UInt8).toArray⟩] 81)).setCell ⟨b, 0, none⟩ (.string ⟨(l.drop (wordLen l)).toArray⟩) = w2 at *
    go_wp2_with fail
    refine (EN.out _ R2.out.rd).mono ?_
    rintro e w3 ⟨rfl, hb⟩
    have R3 := Lib.hid (R2.out.below hb)
    clear hb
    go_wp2_with fail
    exact ⟨rfl, .no HN.out R3.out⟩
end Go.Proofs.YtcgedpfolloinaaGreat

namespace Go.Proofs.YtcgedpfolloinaaGreat
open Go.RowKit

theorem attrP_len {l r : List UInt8} {a : List UInt8 × List UInt8} (h : attrP l = some (a, r)) : r.length + 3 ≤ l.length := by
  unfold attrP at h
  by_cases h0 : wordLen l = 0
  · rw [if_pos h0] at h; cases h
  · rw [if_neg h0] at h
    have hle := wordLen_le l
    cases hd : l.drop (wordLen l) with
    | nil => rw [hd] at h; cases h
    | cons c t =>
      rw [hd] at h
      simp only at h
      have hlen := congrArg List.length hd
      simp at hlen
      by_cases hc : c.toNat = 61
      · rw [if_pos hc] at h
        simp only [Option.map_eq_some_iff, Prod.mk.injEq, Prod.exists] at h
        obtain ⟨s, r', hq, _, rfl⟩ := h
        have := quoP_len hq
        omega
      · rw [if_neg hc] at h; cases h
theorem attrCells_snoc (sa : List (List UInt8 × List UInt8)) (a : List UInt8 × List UInt8) : attrCells (sa ++ [a]) = attrCells sa ++ [.string ⟨a.1.toArray⟩, .string ⟨a.2.toArray⟩] := by
  simp [attrCells]
theorem attrsP_more {n : Nat} {c : UInt8} {t : List UInt8} (hc : c.toNat = 44) : attrsP (n + 1) (c :: t) = match attrP t with
    | none => none
    | some (a, r) => (attrsP n r).map fun x => (a :: x.1, x.2) := by
  rw [attrsP, if_pos hc]
  cases attrP t with
  | none => rfl
  | some x => rfl
theorem attrsP_stop {n : Nat} {l : List UInt8} (h : l.head? ≠ some 44) : attrsP n l = some ([], l) := by
  cases n with
  | zero => rfl
  | succ n =>
    cases l with
    | nil => rfl
    | cons c t =>
      rw [attrsP, if_neg fun e => h (by rw [show c = 44 from UInt8.toNat_inj.1 (by rw [e]; rfl)]; rfl)]
theorem Rd.grown {b : Nat} {t : List UInt8} {u v w : World} {row : Option Nat} (h : Rd b t u v) (hb : b < u.heap.size) (hg : v.grownBy w row) (hr : ∀ k, row = some k → u.heap.size ≤ k) : Rd b t u w := by
  have hs := h.bel.size
  refine ⟨(hg.block b (by omega) (fun e => by have := hr b e.symm; omega)).trans h.rd, h.bel.grown hg (by omega) (fun k hk => by have := hr k hk; omega), fun i hi hn => ?_⟩
  exact (hg.block i (by omega) (fun e => by have := hr i e.symm; omega)).trans (h.oth i hi hn)
theorem owns_rd {b : Nat} {t : List UInt8} {v w : World} {base size n : Nat} {e : TypeId} {u : Value} {xs : List Value} (h : Rd b t v w) (hb : b < base) (ho : v.ownsRow base e size u n xs) : w.ownsRow base e size u n xs := by
  refine ⟨ho.1, ?_⟩
  rcases ho.2 with hn | ⟨g, cap, cur, hv, hbg, hg, rest⟩
  · exact .inl hn
  · exact .inr ⟨g, cap, cur, hv, hbg, (h.oth g (Array.getElem?_eq_some_iff.1 hg).1 (by omega)).trans hg, rest⟩

set_option maxRecDepth 100000 in
set_option maxHeartbeats 4000000 in
theorem attributes_any (b : Nat) (l : List UInt8) (w : World) (h : RdAt b l w) (hl : l.length ≤ 90000) :
    Calls Tryz.prog 178 #[.pointer (some ⟨b, 0, none⟩)] w fun e w' => Got b w (attributesP l) (fun x w' v => AttrsF w.heap.size w' v x) e w' := by
  obtain ⟨i0, hi, hz0, hz1, hz2⟩ := info_parts info_attr
  have hbw := h.lt
  have A0 := Lib.hid (attribute_any b l w h hl)
  obtain ⟨o, ho⟩ : ∃ o, attributesP l = o := ⟨_, rfl⟩
  rw [ho]
  have HO := Lib.hid ho.symm
  clear h ho
  go_enter Tryz.func178, Tryz.ntmps178
  go_wp2_with fail
  refine A0.out.mono ?_
  rintro e w1 hq
  cases ha : attrP l with
  | none =>
    have HN := Lib.hid (HO.out.trans (show attributesP l = none by unfold attributesP; rw [ha]))
    obtain ⟨rfl, t2, hr⟩ := hq.panic ha
    have HR := Lib.hid hr
    clear hr hq ha
    go_wp2_with fail
    exact ⟨rfl, .no HN.out HR.out⟩
  | some x =>
    obtain ⟨a, r⟩ := x
    have HX := Lib.hid (HO.out.trans (show attributesP l = (attrsP r.length r).map fun x => (a :: x.1, x.2) by unfold attributesP; rw [ha]))
    obtain ⟨v, rfl, rfl, hr⟩ := hq.take ha
    have hrl := attrP_len ha
    have HR := Lib.hid hr
    have hs1 := hr.bel.size
    clear hr hq ha
    go_wp2_with fail
    go_loopw [3] (fun v wr => ∃ (sa : List (List UInt8 × List UInt8)) (r : List UInt8) (n : Nat) (v0 : Value), v = v0 ∧ o = (attrsP n r).map (fun x => (sa ++ x.1, x.2)) ∧ r.length ≤ n ∧ sa.length + r.length ≤ l.length ∧ Rd b r w wr ∧ wr.ownsRow w.heap.size 81 2 v sa.length (attrCells sa)) (fun _ wr => match wr.cell? ⟨b, 0, none⟩ with | some (.string x) => x.size | _ => 0)
    case atStart =>
      refine ⟨[a], r, r.length, _, rfl, HX.out, Nat.le_refl _, by simp; omega, HR.out.alloc _, ?_⟩
      have := World.ownsRow_lit (e := 81) (size := 2) (base := w.heap.size) w1 #[.string ⟨a.1.toArray⟩, .string ⟨a.2.toArray⟩] 1 hs1 (by unfold maxLen; omega) rfl
      exact this
    case round =>
      obtain ⟨sa, r, n, v0, hv0, hq, hrn, hlen, rr, hown⟩ := hrel
      obtain rfl := hv0.symm
      have RR := Lib.hid rr
      have HOWN := Lib.hid hown
      have HQ := Lib.hid hq
      have hsr := rr.bel.size
      clear rr hown hq
      by_cases hc : r.head? = some 44
      · obtain ⟨t, rfl⟩ : ∃ t, r = 44 :: t := by
          cases r with
          | nil => cases hc
          | cons c t => exact ⟨t, by rw [show c = 44 by simpa using hc]⟩
        obtain ⟨m, rfl⟩ : ∃ m, n = m + 1 := ⟨n - 1, by simp at hrn; omega⟩
        have hmt : t.length ≤ m := by simp at hrn; omega
        have htl : t.length ≤ 90000 := by simp at hlen; omega
        have R2 := Lib.hid (RR.out.set t)
        have AA := Lib.hid (attribute_any b t _ R2.out.rd htl)
        have O2 := Lib.hid (owns_rd ((Rd.refl RR.out.rd).set t) hbw HOWN.out)
        have HQ2 := Lib.hid (HQ.out.trans (by rw [attrsP_more (by rfl)]))
        have hlt : t.length ≤ 1000000 := by omega
        have hlen2 : sa.length + t.length + 1 ≤ l.length := by simp at hlen; omega
        clear hc
        go_wp2_with fail
        refine (accept_yes b 44 t _ RR.out.rd hlt).mono ?_
        rintro e w2 ⟨rfl, hw⟩
        obtain rfl := hw.symm
        have hs2 : (wr.setCell ⟨b, 0, none⟩ (.string ⟨t.toArray⟩)).heap.size = wr.heap.size := by simp [World.setCell]
        generalize wr.setCell ⟨b, 0, none⟩ (.string ⟨t.toArray⟩) = w2 at *
        go_wp2_with fail
        refine AA.out.mono ?_
        rintro e w3 hq
        cases ha : attrP t with
        | none =>
          have HN := Lib.hid (HQ2.out.trans (by rw [ha] <;> rfl))
          obtain ⟨rfl, t2, hr⟩ := hq.panic ha
          have HR := Lib.hid (R2.out.trans hr)
          clear hr hq ha
          go_wp2_with fail
          exact ⟨rfl, .no HN.out HR.out⟩
        | some x =>
          obtain ⟨a, r⟩ := x
          have HN := Lib.hid (HQ2.out.trans (show _ = (attrsP m r).map (fun x => ((sa ++ [a]) ++ x.1, x.2)) by rw [ha]; simp only; cases attrsP m r <;> simp))
          obtain ⟨v, rfl, rfl, hr⟩ := hq.take ha
          have hal := attrP_len ha
          have R3 := Lib.hid (R2.out.trans hr)
          have O3 := Lib.hid (owns_rd hr hbw O2.out)
          have hs3 := hr.bel.size
          clear hr hq ha
          go_wp2_with (at_builtin; refine wpList_append_own _ rfl _ _ 23 rfl w.heap.size 81 i0 (.agg #[.string ⟨#[]⟩, .string ⟨#[]⟩]) 2 32 Tryz.underlying23 hi hz0 hz1 hz2 rfl (by decide) _ sa.length (attrCells sa) rfl ((O3.out.alloc _).alloc _) ⟨w3.heap.size + 1, 0, none⟩ 1 1 [.string ⟨a.1.toArray⟩, .string ⟨a.2.toArray⟩] rfl rfl ?c1 ?c2 ?c3 ?c4 ?c5 ?stop)
          case c1 =>
            intro j u hj
            match j, hj with
            | 0, hj => simp at hj; subst hj; simp [Addr.add, go_sem]
            | 1, hj => simp at hj; subst hj; simp [Addr.add, go_sem]
          case c2 => intro u hu; simp at hu; rcases hu with rfl | rfl <;> rfl
          case c3 => unfold maxLen; omega
          case c4 => omega
          case c5 => simp; omega
          case stop =>
            intro v' w5 hown' hgrow _
            have O5 := Lib.hid (show w5.ownsRow w.heap.size 81 2 v' (sa ++ [a]).length (attrCells (sa ++ [a])) by
              rw [attrCells_snoc, List.length_append]; exact hown')
            have R5 := Lib.hid (((R3.out.alloc _).alloc _).grown hbw hgrow (fun k hk => (O3.out.lt k hk).1))
            clear hown' hgrow
            go_wp2_with fail
            go_roundw
            case rel => exact ⟨sa ++ [a], r, m, _, rfl, HN.out, by omega, by simp; omega, R5.out, O5.out⟩
            case measure =>
              rw [R5.out.rd.cell, RR.out.rd.cell]
              simp [ByteArray.size]
              omega
      · have HN := Lib.hid (HQ.out.trans (show _ = some (sa, r) by rw [attrsP_stop hc]; simp))
        have AN := Lib.hid (accept_not b 44 r wr RR.out.rd hc)
        have HA := Lib.hid (attrsF_owned HOWN.out (by omega))
        clear hc
        go_wp2_with fail
        refine AN.out.mono ?_
        rintro e w2 ⟨rfl, hw⟩
        obtain rfl := hw.symm
        go_wp2_with fail
        go_ret
        exact .yes HN.out HA.out RR.out
end Go.Proofs.YtcgedpfolloinaaGreat

namespace Go.Proofs.YtcgedpfolloinaaGreat
open Go.RowKit

def TreV (B : Nat) (x : Hd × Fo) (W : World) (v : Value) : Prop :=
  ∃ aa ca ak ck, v = aggOf x.1 aa ca ak x.2.len ck ∧ AttrsF B W (.slice aa x.1.ats.length ca) x.1.ats ∧ LiesF B W (.slice ak x.2.len ck) x.2
theorem Rd.keeps {b : Nat} {t : List UInt8} {u v : World} (h : Rd b t u v) {B : Nat} (hB : b < B) : Keeps B u v :=
  ⟨h.bel.size, fun k o hk hl => World.cell?_of_block (w := u) (h.oth k hl (by omega))⟩
def zeroTree : Obj := .cells #[.int .i64 0, .string ⟨#[]⟩, .slice none 0 0, .int .i64 0, .int .i64 0, .string ⟨#[]⟩, .slice none 0 0] 43
structure TS (b R2 R4 : Nat) (w : World) (h : Hd) (aa : Option Addr) (ca : Nat) (ks : Fo) (ak : Option Addr) (ck : Nat) (t : List UInt8) (W : World) : Prop where
  rd : Rd b t w W
  k2 : W.heap[R2]? = some (.cells #[.int .i64 0, .string ⟨#[]⟩, .slice none 0 0, .int .i64 0, .int .i64 0, .string ⟨#[]⟩, .slice none 0 0] 43 (0, 0))
  k4 : W.heap[R4]? = some (.cells #[.int .i64 h.k, .string ⟨h.l.toArray⟩, .slice aa h.ats.length ca, .int .i64 h.n, .int .i64 h.d, .string ⟨h.x.toArray⟩, .slice ak ks.len ck] 43 (0, 0))
  fa : AttrsF (R4 + 1) W (.slice aa h.ats.length ca) h.ats
  fk : LiesF (R4 + 1) W (.slice ak ks.len ck) ks
  o1 : b < R2
  o2 : w.heap.size = R2
  o3 : R2 < R4
theorem TS.lt {b R2 R4 : Nat} {w : World} {h : Hd} {aa : Option Addr} {ca : Nat} {ks : Fo} {ak : Option Addr} {ck : Nat} {t : List UInt8} {W : World} (s : TS b R2 R4 w h aa ca ks ak ck t W) : R4 < W.heap.size := (Array.getElem?_eq_some_iff.1 s.k4).1
theorem TS.read {b R2 R4 : Nat} {w : World} {h : Hd} {aa : Option Addr} {ca : Nat} {ks : Fo} {ak : Option Addr} {ck : Nat} {t : List UInt8} {W : World} (s : TS b R2 R4 w h aa ca ks ak ck t W) {t' : List UInt8} {W' : World} (r : Rd b t' W W') :
    TS b R2 R4 w h aa ca ks ak ck t' W' := by
  have := s.lt; have := s.o1; have := s.o3
  have hk := r.keeps (B := R4 + 1) (by omega)
  exact ⟨s.rd.trans r, (r.oth _ (by omega) (by omega)).trans s.k2, (r.oth _ (by omega) (by omega)).trans s.k4, attrsF_keeps s.fa hk, liesF_keeps s.fk hk, s.o1, s.o2, s.o3⟩
theorem TS.attrs {b R2 R4 : Nat} {w : World} {h : Hd} {aa : Option Addr} {ca : Nat} {ks : Fo} {ak : Option Addr} {ck : Nat} {t : List UInt8} {W : World} (s : TS b R2 R4 w h aa ca ks ak ck t W) {ats : List (List UInt8 × List UInt8)} {a' : Option Addr} {c' : Nat} (f : AttrsF (R4 + 1) W (.slice a' ats.length c') ats) :
    TS b R2 R4 w { h with ats := ats } a' c' ks ak ck t (W.setCell ⟨R4, 2, none⟩ (.slice a' ats.length c')) := by
  have := s.lt; have := s.o1; have := s.o2; have := s.o3
  have hk : Keeps (R4 + 1) W (W.setCell ⟨R4, 2, none⟩ (.slice a' ats.length c')) := Keeps.setCell W (by omega) _ _
  exact ⟨s.rd.put (by omega) (by omega) 2 _, (Below.heap_setCell _ _ _ _ (by show R2 ≠ R4; omega)).trans s.k2, set_block s.k4, attrsF_keeps f hk, liesF_keeps s.fk hk, s.o1, s.o2, s.o3⟩
theorem TS.kids {b R2 R4 : Nat} {w : World} {h : Hd} {aa : Option Addr} {ca : Nat} {ks : Fo} {ak : Option Addr} {ck : Nat} {t : List UInt8} {W : World} (s : TS b R2 R4 w h aa ca ks ak ck t W) {g : Fo} {a' : Option Addr} {c' : Nat} (f : LiesF (R4 + 1) W (.slice a' g.len c') g) :
    TS b R2 R4 w h aa ca g a' c' t (W.setCell ⟨R4, 6, none⟩ (.slice a' g.len c')) := by
  have := s.lt; have := s.o1; have := s.o2; have := s.o3
  have hk : Keeps (R4 + 1) W (W.setCell ⟨R4, 6, none⟩ (.slice a' g.len c')) := Keeps.setCell W (by omega) _ _
  exact ⟨s.rd.put (by omega) (by omega) 6 _, (Below.heap_setCell _ _ _ _ (by show R2 ≠ R4; omega)).trans s.k2, set_block s.k4, attrsF_keeps s.fa hk, liesF_keeps f hk, s.o1, s.o2, s.o3⟩
/-- all that was read is stored in the result's block. -/
theorem TS.fin {b R2 R4 : Nat} {w : World} {h : Hd} {aa : Option Addr} {ca : Nat} {ks : Fo} {ak : Option Addr} {ck : Nat} {t : List UInt8} {W : World} (s : TS b R2 R4 w h aa ca ks ak ck t W) :
    Rd b t w (((((((W.setCell ⟨R2, 0, none⟩ (.int .i64 h.k)).setCell ⟨R2, 1, none⟩ (.string ⟨h.l.toArray⟩)).setCell ⟨R2, 2, none⟩ (.slice aa h.ats.length ca)).setCell ⟨R2, 3, none⟩ (.int .i64 h.n)).setCell ⟨R2, 4, none⟩ (.int .i64 h.d)).setCell ⟨R2, 5, none⟩ (.string ⟨h.x.toArray⟩)).setCell ⟨R2, 6, none⟩ (.slice ak ks.len ck)) ∧
    (((((((W.setCell ⟨R2, 0, none⟩ (.int .i64 h.k)).setCell ⟨R2, 1, none⟩ (.string ⟨h.l.toArray⟩)).setCell ⟨R2, 2, none⟩ (.slice aa h.ats.length ca)).setCell ⟨R2, 3, none⟩ (.int .i64 h.n)).setCell ⟨R2, 4, none⟩ (.int .i64 h.d)).setCell ⟨R2, 5, none⟩ (.string ⟨h.x.toArray⟩)).setCell ⟨R2, 6, none⟩ (.slice ak ks.len ck)).heap[R2]? = some (.cells #[.int .i64 h.k, .string ⟨h.l.toArray⟩, .slice aa h.ats.length ca, .int .i64 h.n, .int .i64 h.d, .string ⟨h.x.toArray⟩, .slice ak ks.len ck] 43 (0, 0)) ∧
    TreV w.heap.size (h, ks) (((((((W.setCell ⟨R2, 0, none⟩ (.int .i64 h.k)).setCell ⟨R2, 1, none⟩ (.string ⟨h.l.toArray⟩)).setCell ⟨R2, 2, none⟩ (.slice aa h.ats.length ca)).setCell ⟨R2, 3, none⟩ (.int .i64 h.n)).setCell ⟨R2, 4, none⟩ (.int .i64 h.d)).setCell ⟨R2, 5, none⟩ (.string ⟨h.x.toArray⟩)).setCell ⟨R2, 6, none⟩ (.slice ak ks.len ck)) (aggOf h aa ca ak ks.len ck) := by
  have := s.lt; have := s.o1; have := s.o2; have := s.o3
  have hkeep := set7_keeps (B := R4 + 1) W (R := R2) 0 1 2 3 4 5 6 (.int .i64 h.k) (.string ⟨h.l.toArray⟩) (.slice aa h.ats.length ca) (.int .i64 h.n) (.int .i64 h.d) (.string ⟨h.x.toArray⟩) (.slice ak ks.len ck) (by omega)
  refine ⟨((((((s.rd.put (by omega) (by omega) 0 _).put (by omega) (by omega) 1 _).put (by omega) (by omega) 2 _).put (by omega) (by omega) 3 _).put (by omega) (by omega) 4 _).put (by omega) (by omega) 5 _).put (by omega) (by omega) 6 _, set7_blk _ _ _ _ _ _ _ s.k2, aa, ca, ak, ck, rfl, attrsF_mono (by omega) (attrsF_keeps s.fa hkeep), liesF_mono (by omega) (liesF_keeps s.fk hkeep)⟩
end Go.Proofs.YtcgedpfolloinaaGreat

namespace Go.Proofs.YtcgedpfolloinaaGreat
open Go.RowKit

theorem treeP_leaf {F : List UInt8 → Option (Fo × List UInt8)} {l r : List UInt8} {h : Hd} (hb : beginP l = some (h, r)) (hk : h.k ≠ 0) : treeP F l = some ((h, .nil), r) := by
  unfold treeP; rw [hb]; simp only [if_neg hk]
theorem treeP_none {F : List UInt8 → Option (Fo × List UInt8)} {l : List UInt8} (hb : beginP l = none) : treeP F l = none := by
  unfold treeP; rw [hb]
theorem treeP_word {F : List UInt8 → Option (Fo × List UInt8)} {l r s : List UInt8} (hb : beginP l = some (⟨0, s, [], 0, 0, []⟩, r)) :
    treeP F l = (optA r).bind fun y => (optK F y.2).map fun x => ((⟨0, s, y.1, 0, 0, []⟩, x.1), x.2) := by
  unfold treeP; rw [hb]
  simp only [if_true]
  cases optA r with
  | none => rfl
  | some y => rfl

theorem optA_no {l : List UInt8} (h : l.head? ≠ some 40) : optA l = some ([], l) := by
  cases l with
  | nil => rfl
  | cons c t => exact if_neg fun e => h (by rw [show c = 40 from UInt8.toNat_inj.1 (by rw [e]; rfl)]; rfl)
theorem optK_no {F : List UInt8 → Option (Fo × List UInt8)} {l : List UInt8} (h : l.head? ≠ some 123) : optK F l = some (.nil, l) := by
  cases l with
  | nil => rfl
  | cons c t => exact if_neg fun e => h (by rw [show c = 123 from UInt8.toNat_inj.1 (by rw [e]; rfl)]; rfl)
theorem expP_no {α : Type} {k : UInt8} {x : α} {l : List UInt8} (h : l.head? ≠ some k) : expP k.toNat x l = none := by
  cases l with
  | nil => rfl
  | cons c t => exact if_neg fun e => h (by rw [show c = k from UInt8.toNat_inj.1 e]; rfl)

/-- the world behind what a tree begins with. -/
theorem TS.start {b : Nat} {l r : List UInt8} {w w1 w2 : World} (h : Hd) (hl : h.ats = []) (hbw : b < w.heap.size) (hw : RdAt b l w) (h1 : Rd b r (w.alloc zeroTree) w1) (h2 : Below w1.heap.size w1 w2) :
    TS b w.heap.size w2.heap.size w h none 0 .nil none 0 r (w2.alloc (.cells #[.int .i64 h.k, .string ⟨h.l.toArray⟩, .slice none 0 0, .int .i64 h.n, .int .i64 h.d, .string ⟨h.x.toArray⟩, .slice none 0 0] 43)) := by
  have r0 : Rd b l w (w.alloc zeroTree) := (Rd.refl hw).alloc _
  have hs1 := h1.bel.size
  have hs2 := h2.size
  simp at hs1
  have k1 : w1.heap[w.heap.size]? = _ := (h1.oth _ (by simp) (by omega)).trans (World.alloc_heap_new _ _)
  have k2 := (h2.block _ (by omega)).trans k1
  refine ⟨((r0.trans h1).below h2).alloc _, (Below.heap_alloc _ _ _ (by omega)).trans k2, ?_, .inl ⟨_, _, by rw [hl]; rfl, hl⟩, .inl ⟨_, _, rfl, rfl⟩, hbw, rfl, by omega⟩
  rw [hl]
  exact World.alloc_heap_new _ _

theorem attrsP_len : ∀ (n : Nat) {l r : List UInt8} {a : List (List UInt8 × List UInt8)}, attrsP n l = some (a, r) → r.length ≤ l.length
  | 0, l, r, a, h => by simp [attrsP] at h; exact Nat.le_of_eq (by rw [h.2])
  | n + 1, l, r, a, h => by
    by_cases hc : l.head? = some 44
    · cases l with
      | nil => cases hc
      | cons c t =>
        rw [attrsP_more (by rw [show c = 44 by simpa using hc]; rfl)] at h
        cases hq : attrP t with
        | none => rw [hq] at h; cases h
        | some x =>
          obtain ⟨a1, r1⟩ := x
          rw [hq] at h
          simp only [Option.map_eq_some_iff, Prod.mk.injEq, Prod.exists] at h
          obtain ⟨a2, r2, h2, _, rfl⟩ := h
          have := attrsP_len n h2
          have := attrP_len hq
          simp; omega
    · rw [attrsP_stop hc] at h
      simp at h
      exact Nat.le_of_eq (by rw [h.2])
theorem attributesP_len {l r : List UInt8} {a : List (List UInt8 × List UInt8)} (h : attributesP l = some (a, r)) : r.length + 3 ≤ l.length := by
  unfold attributesP at h
  cases hq : attrP l with
  | none => rw [hq] at h; cases h
  | some x =>
    obtain ⟨a1, r1⟩ := x
    rw [hq] at h
    simp only [Option.map_eq_some_iff, Prod.mk.injEq, Prod.exists] at h
    obtain ⟨a2, r2, h2, _, rfl⟩ := h
    have := attrsP_len _ h2
    have := attrP_len hq
    omega

set_option maxRecDepth 100000 in
set_option maxHeartbeats 4000000 in
theorem tree_figure (b : Nat) (F : List UInt8 → Option (Fo × List UInt8)) (l : List UInt8) (w : World) (n d : Int) (r : List UInt8) (h : RdAt b l w) (hl : l.length ≤ 90000) (hb : beginP l = some (⟨1, [], [], n, d, []⟩, r)) :
    Calls Tryz.prog 165 #[.pointer (some ⟨b, 0, none⟩)] w fun e w' => Got b w (treeP F l) (TreV w.heap.size) e w' := by
  have hbw := h.lt
  have B0 := Lib.hid (begin_any b l (w.alloc zeroTree) ((Below.heap_alloc w _ b hbw).trans h) hl)
  have HB := Lib.hid hb
  have HN := Lib.hid (treeP_leaf (F := F) hb (by simp))
  have HS := Lib.hid (fun w1 w2 => TS.start (l := l) (r := r) (w1 := w1) (w2 := w2) ⟨1, [], [], n, d, []⟩ rfl hbw h)
  generalize treeP F l = o at *
  clear h hb
  unfold zeroTree at B0
  go_enter Tryz.func165, Tryz.ntmps165
  go_wp2_with fail
  refine B0.out.mono ?_
  rintro e w1 hq
  obtain ⟨v, rfl, hv, hr⟩ := hq.take HB.out
  obtain rfl : v = .iface 188 (.agg #[.int .i64 n, .int .i64 d]) := by
    rcases hv with ⟨s', h1, h2⟩ | ⟨n', d', h1, h2⟩ | ⟨s', h1, h2⟩
    · simp at h1
    · simp at h1; rw [h2, h1.1, h1.2]
    · simp at h1
  have HR := Lib.hid hr
  clear hq hv hr
  have hm : ∀ W, (method 345 188 (.agg #[.int .i64 n, .int .i64 d]) "withy/tree.head").run Tryz.prog W = .ok (240, .agg #[.int .i64 n, .int .i64 d]) W := fun _ => by kernel_rfl
  have ha1 : ∀ W, (Instr.typeAssert (.iface 188 (.agg #[.int .i64 n, .int .i64 d])) 185 188 true).run Tryz.prog W = .ok (.tuple #[.agg #[.int .i64 n, .int .i64 d], .bool true]) W := fun _ => by kernel_rfl
  have ha2 : ∀ W, (Instr.typeAssert (.iface 188 (.agg #[.int .i64 n, .int .i64 d])) 185 189 true).run Tryz.prog W = .ok (.tuple #[.string ⟨#[]⟩, .bool false]) W := fun _ => by kernel_rfl
  go_wp2_with fail
  refine (figure_head n d _).mono ?_
  rintro e w2 ⟨rfl, hb2⟩
  unfold hdV
  have S := Lib.hid (HS.out w1 w2 HR.out hb2)
  clear hb2
  go_upto_region 3 with fail
  have q43 : w.heap.size < w2.heap.size := S.out.o3
  generalize w2.alloc _ = W at *
  generalize w2.heap.size = R4 at *
  have d0 : W.cell? ⟨R4, 0, none⟩ = some (.int .i64 1) := cell_of_block S.out.k4 rfl
  have d1 : W.cell? ⟨R4, 1, none⟩ = some (.string ⟨#[]⟩) := cell_of_block S.out.k4 rfl
  have d2 : W.cell? ⟨R4, 2, none⟩ = some (.slice none 0 0) := cell_of_block S.out.k4 rfl
  have d3 : W.cell? ⟨R4, 3, none⟩ = some (.int .i64 n) := cell_of_block S.out.k4 rfl
  have d4 : W.cell? ⟨R4, 4, none⟩ = some (.int .i64 d) := cell_of_block S.out.k4 rfl
  have d5 : W.cell? ⟨R4, 5, none⟩ = some (.string ⟨#[]⟩) := cell_of_block S.out.k4 rfl
  have d6 : W.cell? ⟨R4, 6, none⟩ = some (.slice none 0 0) := cell_of_block S.out.k4 rfl
  have y0 : W.cell? ⟨w.heap.size, 0, none⟩ = some (.int .i64 0) := cell_of_block S.out.k2 rfl
  have y1 : W.cell? ⟨w.heap.size, 1, none⟩ = some (.string ⟨#[]⟩) := cell_of_block S.out.k2 rfl
  have y2 : W.cell? ⟨w.heap.size, 2, none⟩ = some (.slice none 0 0) := cell_of_block S.out.k2 rfl
  have y3 : W.cell? ⟨w.heap.size, 3, none⟩ = some (.int .i64 0) := cell_of_block S.out.k2 rfl
  have y4 : W.cell? ⟨w.heap.size, 4, none⟩ = some (.int .i64 0) := cell_of_block S.out.k2 rfl
  have y5 : W.cell? ⟨w.heap.size, 5, none⟩ = some (.string ⟨#[]⟩) := cell_of_block S.out.k2 rfl
  have y6 : W.cell? ⟨w.heap.size, 6, none⟩ = some (.slice none 0 0) := cell_of_block S.out.k2 rfl
  have z0 := frozen_of_block (o := 0) S.out.k2
  have z1 := frozen_of_block (o := 1) S.out.k2
  have z2 := frozen_of_block (o := 2) S.out.k2
  have z3 := frozen_of_block (o := 3) S.out.k2
  have z4 := frozen_of_block (o := 4) S.out.k2
  have z5 := frozen_of_block (o := 5) S.out.k2
  have z6 := frozen_of_block (o := 6) S.out.k2
  go_wp2_with fail
  have hfin := S.out.fin
  try rw [show Fo.nil.len = 0 from rfl] at hfin
  try rw [show ([] : List (List UInt8 × List UInt8)).length = 0 from rfl] at hfin
  generalize (((((((W.setCell ⟨w.heap.size, 0, none⟩ (.int .i64 1)).setCell ⟨w.heap.size, 1, none⟩ (.string ⟨#[]⟩)).setCell ⟨w.heap.size, 2, none⟩ (.slice none 0 0)).setCell ⟨w.heap.size, 3, none⟩ (.int .i64 n)).setCell ⟨w.heap.size, 4, none⟩ (.int .i64 d)).setCell ⟨w.heap.size, 5, none⟩ (.string ⟨#[]⟩)).setCell ⟨w.heap.size, 6, none⟩ (.slice none 0 0)) = Wf at hfin ⊢
  obtain ⟨hrd, hbk, htv⟩ := hfin
  have u0 : Wf.cell? ⟨w.heap.size, 0, none⟩ = some (.int .i64 1) := cell_of_block hbk rfl
  have u1 : Wf.cell? ⟨w.heap.size, 1, none⟩ = some (.string ⟨#[]⟩) := cell_of_block hbk rfl
  have u2 : Wf.cell? ⟨w.heap.size, 2, none⟩ = some (.slice none 0 0) := cell_of_block hbk rfl
  have u3 : Wf.cell? ⟨w.heap.size, 3, none⟩ = some (.int .i64 n) := cell_of_block hbk rfl
  have u4 : Wf.cell? ⟨w.heap.size, 4, none⟩ = some (.int .i64 d) := cell_of_block hbk rfl
  have u5 : Wf.cell? ⟨w.heap.size, 5, none⟩ = some (.string ⟨#[]⟩) := cell_of_block hbk rfl
  have u6 : Wf.cell? ⟨w.heap.size, 6, none⟩ = some (.slice none 0 0) := cell_of_block hbk rfl
  refine bodyPost_ret (v := .agg #[.int .i64 1, .string ⟨#[]⟩, .slice none 0 0, .int .i64 n, .int .i64 d, .string ⟨#[]⟩, .slice none 0 0]) (by simp [results, Tryz.results165, go_sem, u0, u1, u2, u3, u4, u5, u6]) rfl ?_
  exact .yes HN.out htv hrd

set_option maxRecDepth 100000 in
set_option maxHeartbeats 4000000 in
theorem tree_quoted (b : Nat) (F : List UInt8 → Option (Fo × List UInt8)) (l : List UInt8) (w : World) (s r : List UInt8) (h : RdAt b l w) (hl : l.length ≤ 90000) (hb : beginP l = some (⟨2, [], [], 0, 0, s⟩, r)) :
    Calls Tryz.prog 165 #[.pointer (some ⟨b, 0, none⟩)] w fun e w' => Got b w (treeP F l) (TreV w.heap.size) e w' := by
  have hbw := h.lt
  have B0 := Lib.hid (begin_any b l (w.alloc zeroTree) ((Below.heap_alloc w _ b hbw).trans h) hl)
  have HB := Lib.hid hb
  have HN := Lib.hid (treeP_leaf (F := F) hb (by simp))
  have HS := Lib.hid (fun w1 w2 => TS.start (l := l) (r := r) (w1 := w1) (w2 := w2) ⟨2, [], [], 0, 0, s⟩ rfl hbw h)
  generalize treeP F l = o at *
  clear h hb
  unfold zeroTree at B0
  go_enter Tryz.func165, Tryz.ntmps165
  go_wp2_with fail
  refine B0.out.mono ?_
  rintro e w1 hq
  obtain ⟨v, rfl, hv, hr⟩ := hq.take HB.out
  obtain rfl : v = .iface 189 (.string ⟨s.toArray⟩) := by
    rcases hv with ⟨s', h1, h2⟩ | ⟨n', d', h1, h2⟩ | ⟨s', h1, h2⟩
    · simp at h1
    · simp at h1
    · simp at h1; rw [h2, h1]
  have HR := Lib.hid hr
  clear hq hv hr
  have hm : ∀ W, (method 345 189 (.string ⟨s.toArray⟩) "withy/tree.head").run Tryz.prog W = .ok (241, .string ⟨s.toArray⟩) W := fun _ => by kernel_rfl
  have ha1 : ∀ W, (Instr.typeAssert (.iface 189 (.string ⟨s.toArray⟩)) 185 188 true).run Tryz.prog W = .ok (.tuple #[.agg #[.int .i64 0, .int .i64 0], .bool false]) W := fun _ => by kernel_rfl
  have ha2 : ∀ W, (Instr.typeAssert (.iface 189 (.string ⟨s.toArray⟩)) 185 189 true).run Tryz.prog W = .ok (.tuple #[.string ⟨s.toArray⟩, .bool true]) W := fun _ => by kernel_rfl
  go_wp2_with fail
  refine (quoted_head s _).mono ?_
  rintro e w2 ⟨rfl, hb2⟩
  unfold hdV
  have S := Lib.hid (HS.out w1 w2 HR.out hb2)
  clear hb2
  go_upto_region 3 with fail
  have q43 : w.heap.size < w2.heap.size := S.out.o3
  generalize w2.alloc _ = W at *
  generalize w2.heap.size = R4 at *
  have d0 : W.cell? ⟨R4, 0, none⟩ = some (.int .i64 2) := cell_of_block S.out.k4 rfl
  have d1 : W.cell? ⟨R4, 1, none⟩ = some (.string ⟨#[]⟩) := cell_of_block S.out.k4 rfl
  have d2 : W.cell? ⟨R4, 2, none⟩ = some (.slice none 0 0) := cell_of_block S.out.k4 rfl
  have d3 : W.cell? ⟨R4, 3, none⟩ = some (.int .i64 0) := cell_of_block S.out.k4 rfl
  have d4 : W.cell? ⟨R4, 4, none⟩ = some (.int .i64 0) := cell_of_block S.out.k4 rfl
  have d5 : W.cell? ⟨R4, 5, none⟩ = some (.string ⟨s.toArray⟩) := cell_of_block S.out.k4 rfl
  have d6 : W.cell? ⟨R4, 6, none⟩ = some (.slice none 0 0) := cell_of_block S.out.k4 rfl
  have y0 : W.cell? ⟨w.heap.size, 0, none⟩ = some (.int .i64 0) := cell_of_block S.out.k2 rfl
  have y1 : W.cell? ⟨w.heap.size, 1, none⟩ = some (.string ⟨#[]⟩) := cell_of_block S.out.k2 rfl
  have y2 : W.cell? ⟨w.heap.size, 2, none⟩ = some (.slice none 0 0) := cell_of_block S.out.k2 rfl
  have y3 : W.cell? ⟨w.heap.size, 3, none⟩ = some (.int .i64 0) := cell_of_block S.out.k2 rfl
  have y4 : W.cell? ⟨w.heap.size, 4, none⟩ = some (.int .i64 0) := cell_of_block S.out.k2 rfl
  have y5 : W.cell? ⟨w.heap.size, 5, none⟩ = some (.string ⟨#[]⟩) := cell_of_block S.out.k2 rfl
  have y6 : W.cell? ⟨w.heap.size, 6, none⟩ = some (.slice none 0 0) := cell_of_block S.out.k2 rfl
  have z0 := frozen_of_block (o := 0) S.out.k2
  have z1 := frozen_of_block (o := 1) S.out.k2
  have z2 := frozen_of_block (o := 2) S.out.k2
  have z3 := frozen_of_block (o := 3) S.out.k2
  have z4 := frozen_of_block (o := 4) S.out.k2
  have z5 := frozen_of_block (o := 5) S.out.k2
  have z6 := frozen_of_block (o := 6) S.out.k2
  go_wp2_with fail
  have hfin := S.out.fin
  try rw [show Fo.nil.len = 0 from rfl] at hfin
  try rw [show ([] : List (List UInt8 × List UInt8)).length = 0 from rfl] at hfin
  generalize (((((((W.setCell ⟨w.heap.size, 0, none⟩ (.int .i64 2)).setCell ⟨w.heap.size, 1, none⟩ (.string ⟨#[]⟩)).setCell ⟨w.heap.size, 2, none⟩ (.slice none 0 0)).setCell ⟨w.heap.size, 3, none⟩ (.int .i64 0)).setCell ⟨w.heap.size, 4, none⟩ (.int .i64 0)).setCell ⟨w.heap.size, 5, none⟩ (.string ⟨s.toArray⟩)).setCell ⟨w.heap.size, 6, none⟩ (.slice none 0 0)) = Wf at hfin ⊢
  obtain ⟨hrd, hbk, htv⟩ := hfin
  have u0 : Wf.cell? ⟨w.heap.size, 0, none⟩ = some (.int .i64 2) := cell_of_block hbk rfl
  have u1 : Wf.cell? ⟨w.heap.size, 1, none⟩ = some (.string ⟨#[]⟩) := cell_of_block hbk rfl
  have u2 : Wf.cell? ⟨w.heap.size, 2, none⟩ = some (.slice none 0 0) := cell_of_block hbk rfl
  have u3 : Wf.cell? ⟨w.heap.size, 3, none⟩ = some (.int .i64 0) := cell_of_block hbk rfl
  have u4 : Wf.cell? ⟨w.heap.size, 4, none⟩ = some (.int .i64 0) := cell_of_block hbk rfl
  have u5 : Wf.cell? ⟨w.heap.size, 5, none⟩ = some (.string ⟨s.toArray⟩) := cell_of_block hbk rfl
  have u6 : Wf.cell? ⟨w.heap.size, 6, none⟩ = some (.slice none 0 0) := cell_of_block hbk rfl
  refine bodyPost_ret (v := .agg #[.int .i64 2, .string ⟨#[]⟩, .slice none 0 0, .int .i64 0, .int .i64 0, .string ⟨s.toArray⟩, .slice none 0 0]) (by simp [results, Tryz.results165, go_sem, u0, u1, u2, u3, u4, u5, u6]) rfl ?_
  exact .yes HN.out htv hrd
end Go.Proofs.YtcgedpfolloinaaGreat

namespace Go.Proofs.YtcgedpfolloinaaGreat
open Go.RowKit

set_option maxRecDepth 100000 in
set_option maxHeartbeats 8000000 in
theorem tree_word_none (b : Nat) (F : List UInt8 → Option (Fo × List UInt8)) (l : List UInt8) (w : World) (s r : List UInt8) (h : RdAt b l w) (hl : l.length ≤ 90000) (hb : beginP l = some (⟨0, s, [], 0, 0, []⟩, r)) (n : Nat) (hr : r.length ≤ n + 1) (hn : n ≤ 89000)
    (HL : ∀ t g u, F t = some (g, u) → u.length ≤ t.length)
    (HF : ∀ t W, RdAt b t W → t.length ≤ n → Calls Tryz.prog 152 #[.pointer (some ⟨b, 0, none⟩)] W fun e w' => Got b W (F t) (fun f w' v => LiesF W.heap.size w' v f) e w') (ha : r.head? ≠ some 40) :
    Calls Tryz.prog 165 #[.pointer (some ⟨b, 0, none⟩)] w fun e w' => Got b w (treeP F l) (TreV w.heap.size) e w' := by
  have hbw := h.lt
  have B0 := Lib.hid (begin_any b l (w.alloc zeroTree) ((Below.heap_alloc w _ b hbw).trans h) hl)
  have HB := Lib.hid hb
  have HN := Lib.hid (treeP_word (F := F) hb)
  have HS := Lib.hid (fun w1 w2 => TS.start (l := l) (r := r) (w1 := w1) (w2 := w2) ⟨0, s, [], 0, 0, []⟩ rfl hbw h)
  have HO0 : optA r = some ([], r) := optA_no ha
  have HOL := Lib.hid (HN.out.trans (show _ = (optK F r).map (fun x => ((⟨0, s, [], 0, 0, []⟩, x.1), x.2)) by rw [HO0] <;> rfl))
  generalize treeP F l = o at *
  clear h hb
  unfold zeroTree at B0
  go_enter Tryz.func165, Tryz.ntmps165
  go_wp2_with fail
  refine B0.out.mono ?_
  rintro e w1 hq
  obtain ⟨v, rfl, hv, hr⟩ := hq.take HB.out
  obtain rfl : v = .iface 200 (.string ⟨s.toArray⟩) := by
    rcases hv with ⟨s', h1, h2⟩ | ⟨n', d', h1, h2⟩ | ⟨s', h1, h2⟩
    · simp at h1; rw [h2, h1]
    · simp at h1
    · simp at h1
  have HR := Lib.hid hr
  clear hq hv hr
  have hm : ∀ W, (method 345 200 (.string ⟨s.toArray⟩) "withy/tree.head").run Tryz.prog W = .ok (242, .string ⟨s.toArray⟩) W := fun _ => by kernel_rfl
  have ha1 : ∀ W, (Instr.typeAssert (.iface 200 (.string ⟨s.toArray⟩)) 185 188 true).run Tryz.prog W = .ok (.tuple #[.agg #[.int .i64 0, .int .i64 0], .bool false]) W := fun _ => by kernel_rfl
  have ha2 : ∀ W, (Instr.typeAssert (.iface 200 (.string ⟨s.toArray⟩)) 185 189 true).run Tryz.prog W = .ok (.tuple #[.string ⟨#[]⟩, .bool false]) W := fun _ => by kernel_rfl
  go_wp2_with fail
  refine (word_head s _).mono ?_
  rintro e w2 ⟨rfl, hb2⟩
  unfold hdV
  have S := Lib.hid (HS.out w1 w2 HR.out hb2)
  clear hb2
  go_upto_region 3 with fail
  have q43 : w.heap.size < w2.heap.size := S.out.o3
  generalize w2.alloc _ = W at *
  generalize w2.heap.size = R4 at *
  generalize r = rr at *
  have rd := Lib.hid S.out.rd.rd
  have AN := Lib.hid (accept_not b 40 rr _ rd.out ha)
  clear ha HO0
  go_wp2_with fail
  refine AN.out.mono ?_
  rintro e wx ⟨rfl, hw⟩
  obtain rfl := hw.symm
  by_cases hk : rr.head? = some 123
  · obtain ⟨t, rfl⟩ : ∃ t, rr = 123 :: t := by
      cases rr with
      | nil => cases hk
      | cons c t => exact ⟨t, by rw [show c = 123 by simpa using hk]⟩
    have htl : t.length ≤ n := by simp at hr; omega
    have htl2 : t.length ≤ 1000000 := by omega
    have HK := Lib.hid (HOL.out.trans (show (optK F (123 :: t)).map _ = ((F t).bind fun x => expP 125 x.1 x.2).map (fun x => ((⟨0, s, [], 0, 0, []⟩, x.1), x.2)) from rfl))
    have rd := Lib.hid S.out.rd.rd
    have HRR := Lib.hid (Rd.refl rd.out)
    clear hk
    go_wp2_with fail
    refine (accept_yes b 123 t _ rd.out htl2).mono ?_
    rintro e wk ⟨rfl, hw⟩
    obtain rfl := hw.symm
    have Sk := Lib.hid (S.out.read (HRR.out.set t))
    generalize W.setCell ⟨b, 0, none⟩ (.string ⟨t.toArray⟩) = Wk at *
    clear rd HRR
    go_wp2_with fail
    refine (HF t _ Sk.out.rd.rd htl).mono ?_
    rintro e wf hq
    cases hqo : F t with
    | none =>
      have HX := Lib.hid (HK.out.trans (by rw [hqo] <;> rfl))
      obtain ⟨rfl, t2, hr⟩ := hq.panic hqo
      have SX := Lib.hid (Sk.out.read hr)
      clear hr hq hqo
      go_wp2_with fail
      exact ⟨rfl, .no HX.out SX.out.rd⟩
    | some x =>
      obtain ⟨g, r2⟩ := x
      have FTX := Lib.hid hqo
      obtain ⟨v, rfl, hv, hr⟩ := hq.take hqo
      have HX := Lib.hid (HK.out.trans (show _ = (expP 125 g r2).map (fun x => ((⟨0, s, [], 0, 0, []⟩, x.1), x.2)) by rw [hqo] <;> rfl))
      have Sf := Lib.hid (Sk.out.read hr)
      obtain ⟨ak, ck, rfl⟩ := liesF_form hv
      have SG := Lib.hid (Sf.out.kids (liesF_mono Sk.out.lt hv))
      have d6 : ∃ z, wf.cell? ⟨R4, 6, none⟩ = some z := ⟨_, cell_of_block Sf.out.k4 rfl⟩
      obtain ⟨z6, d6⟩ := d6
      have e6 := frozen_of_block (o := 6) Sf.out.k4
      clear hr hq hqo hv
      go_wp2_with fail
      generalize wf.setCell ⟨R4, 6, none⟩ (.slice ak g.len ck) = Wg at *
      clear d6 e6
      by_cases hx : r2.head? = some 125
      · obtain ⟨t3, rfl⟩ : ∃ t3, r2 = 125 :: t3 := by
          cases r2 with
          | nil => cases hx
          | cons c t => exact ⟨t, by rw [show c = 125 by simpa using hx]⟩
        have ht3 : t3.length ≤ 1000000 := by have := HL t _ _ (FTX.out); simp at this; omega
        have HY := Lib.hid (HX.out.trans (show _ = some ((⟨0, s, [], 0, 0, []⟩, g), t3) from rfl))
        have rd := Lib.hid SG.out.rd.rd
        have HRR := Lib.hid (Rd.refl rd.out)
        clear hx
        refine (expect_yes b 125 t3 _ rd.out ht3).mono ?_
        rintro e wx ⟨rfl, hw⟩
        obtain rfl := hw.symm
        have SZ := Lib.hid (SG.out.read (HRR.out.set t3))
        generalize Wg.setCell ⟨b, 0, none⟩ (.string ⟨t3.toArray⟩) = Wz at *
        clear rd HRR
        have d0 : Wz.cell? ⟨R4, 0, none⟩ = some (.int .i64 0) := cell_of_block SZ.out.k4 rfl
        have d1 : Wz.cell? ⟨R4, 1, none⟩ = some (.string ⟨s.toArray⟩) := cell_of_block SZ.out.k4 rfl
        have d2 : Wz.cell? ⟨R4, 2, none⟩ = some (.slice none 0 0) := cell_of_block SZ.out.k4 rfl
        have d3 : Wz.cell? ⟨R4, 3, none⟩ = some (.int .i64 0) := cell_of_block SZ.out.k4 rfl
        have d4 : Wz.cell? ⟨R4, 4, none⟩ = some (.int .i64 0) := cell_of_block SZ.out.k4 rfl
        have d5 : Wz.cell? ⟨R4, 5, none⟩ = some (.string ⟨#[]⟩) := cell_of_block SZ.out.k4 rfl
        have d6 : Wz.cell? ⟨R4, 6, none⟩ = some (.slice ak g.len ck) := cell_of_block SZ.out.k4 rfl
        have y0 : Wz.cell? ⟨w.heap.size, 0, none⟩ = some (.int .i64 0) := cell_of_block SZ.out.k2 rfl
        have y1 : Wz.cell? ⟨w.heap.size, 1, none⟩ = some (.string ⟨#[]⟩) := cell_of_block SZ.out.k2 rfl
        have y2 : Wz.cell? ⟨w.heap.size, 2, none⟩ = some (.slice none 0 0) := cell_of_block SZ.out.k2 rfl
        have y3 : Wz.cell? ⟨w.heap.size, 3, none⟩ = some (.int .i64 0) := cell_of_block SZ.out.k2 rfl
        have y4 : Wz.cell? ⟨w.heap.size, 4, none⟩ = some (.int .i64 0) := cell_of_block SZ.out.k2 rfl
        have y5 : Wz.cell? ⟨w.heap.size, 5, none⟩ = some (.string ⟨#[]⟩) := cell_of_block SZ.out.k2 rfl
        have y6 : Wz.cell? ⟨w.heap.size, 6, none⟩ = some (.slice none 0 0) := cell_of_block SZ.out.k2 rfl
        have z0 := frozen_of_block (o := 0) SZ.out.k2
        have z1 := frozen_of_block (o := 1) SZ.out.k2
        have z2 := frozen_of_block (o := 2) SZ.out.k2
        have z3 := frozen_of_block (o := 3) SZ.out.k2
        have z4 := frozen_of_block (o := 4) SZ.out.k2
        have z5 := frozen_of_block (o := 5) SZ.out.k2
        have z6 := frozen_of_block (o := 6) SZ.out.k2
        go_wp2_with fail
        have hfin := SZ.out.fin
        try rw [show Fo.nil.len = 0 from rfl] at hfin
        try rw [show ([] : List (List UInt8 × List UInt8)).length = 0 from rfl] at hfin
        generalize (((((((Wz.setCell ⟨w.heap.size, 0, none⟩ (.int .i64 0)).setCell ⟨w.heap.size, 1, none⟩ (.string ⟨s.toArray⟩)).setCell ⟨w.heap.size, 2, none⟩ (.slice none 0 0)).setCell ⟨w.heap.size, 3, none⟩ (.int .i64 0)).setCell ⟨w.heap.size, 4, none⟩ (.int .i64 0)).setCell ⟨w.heap.size, 5, none⟩ (.string ⟨#[]⟩)).setCell ⟨w.heap.size, 6, none⟩ (.slice ak g.len ck)) = Wf at hfin ⊢
        obtain ⟨hrd, hbk, htv⟩ := hfin
        have u0 : Wf.cell? ⟨w.heap.size, 0, none⟩ = some (.int .i64 0) := cell_of_block hbk rfl
        have u1 : Wf.cell? ⟨w.heap.size, 1, none⟩ = some (.string ⟨s.toArray⟩) := cell_of_block hbk rfl
        have u2 : Wf.cell? ⟨w.heap.size, 2, none⟩ = some (.slice none 0 0) := cell_of_block hbk rfl
        have u3 : Wf.cell? ⟨w.heap.size, 3, none⟩ = some (.int .i64 0) := cell_of_block hbk rfl
        have u4 : Wf.cell? ⟨w.heap.size, 4, none⟩ = some (.int .i64 0) := cell_of_block hbk rfl
        have u5 : Wf.cell? ⟨w.heap.size, 5, none⟩ = some (.string ⟨#[]⟩) := cell_of_block hbk rfl
        have u6 : Wf.cell? ⟨w.heap.size, 6, none⟩ = some (.slice ak g.len ck) := cell_of_block hbk rfl
        refine bodyPost_ret (v := .agg #[.int .i64 0, .string ⟨s.toArray⟩, .slice none 0 0, .int .i64 0, .int .i64 0, .string ⟨#[]⟩, .slice ak g.len ck]) (by simp [results, Tryz.results165, go_sem, u0, u1, u2, u3, u4, u5, u6]) rfl ?_
        exact .yes HY.out htv hrd
      · have HY := Lib.hid (HX.out.trans (by rw [show expP 125 g r2 = none from expP_no (k := 125) hx] <;> rfl))
        have rd := Lib.hid SG.out.rd.rd
        refine (expect_no b 125 r2 _ rd.out hx).mono ?_
        rintro e wx ⟨rfl, hbx⟩
        have RX := Lib.hid (SG.out.rd.below hbx)
        clear hbx hx
        go_wp2_with fail
        exact ⟨rfl, .no HY.out RX.out⟩
  · have HY := Lib.hid (HOL.out.trans (show _ = some ((⟨0, s, [], 0, 0, []⟩, .nil), rr) by rw [optK_no hk] <;> rfl))
    have rd := Lib.hid S.out.rd.rd
    have AN := Lib.hid (accept_not b 123 rr _ rd.out hk)
    clear hk
    go_wp2_with fail
    refine AN.out.mono ?_
    rintro e wx ⟨rfl, hw⟩
    obtain rfl := hw.symm
    have d0 : W.cell? ⟨R4, 0, none⟩ = some (.int .i64 0) := cell_of_block S.out.k4 rfl
    have d1 : W.cell? ⟨R4, 1, none⟩ = some (.string ⟨s.toArray⟩) := cell_of_block S.out.k4 rfl
    have d2 : W.cell? ⟨R4, 2, none⟩ = some (.slice none 0 0) := cell_of_block S.out.k4 rfl
    have d3 : W.cell? ⟨R4, 3, none⟩ = some (.int .i64 0) := cell_of_block S.out.k4 rfl
    have d4 : W.cell? ⟨R4, 4, none⟩ = some (.int .i64 0) := cell_of_block S.out.k4 rfl
    have d5 : W.cell? ⟨R4, 5, none⟩ = some (.string ⟨#[]⟩) := cell_of_block S.out.k4 rfl
    have d6 : W.cell? ⟨R4, 6, none⟩ = some (.slice none 0 0) := cell_of_block S.out.k4 rfl
    have y0 : W.cell? ⟨w.heap.size, 0, none⟩ = some (.int .i64 0) := cell_of_block S.out.k2 rfl
    have y1 : W.cell? ⟨w.heap.size, 1, none⟩ = some (.string ⟨#[]⟩) := cell_of_block S.out.k2 rfl
    have y2 : W.cell? ⟨w.heap.size, 2, none⟩ = some (.slice none 0 0) := cell_of_block S.out.k2 rfl
    have y3 : W.cell? ⟨w.heap.size, 3, none⟩ = some (.int .i64 0) := cell_of_block S.out.k2 rfl
    have y4 : W.cell? ⟨w.heap.size, 4, none⟩ = some (.int .i64 0) := cell_of_block S.out.k2 rfl
    have y5 : W.cell? ⟨w.heap.size, 5, none⟩ = some (.string ⟨#[]⟩) := cell_of_block S.out.k2 rfl
    have y6 : W.cell? ⟨w.heap.size, 6, none⟩ = some (.slice none 0 0) := cell_of_block S.out.k2 rfl
    have z0 := frozen_of_block (o := 0) S.out.k2
    have z1 := frozen_of_block (o := 1) S.out.k2
    have z2 := frozen_of_block (o := 2) S.out.k2
    have z3 := frozen_of_block (o := 3) S.out.k2
    have z4 := frozen_of_block (o := 4) S.out.k2
    have z5 := frozen_of_block (o := 5) S.out.k2
    have z6 := frozen_of_block (o := 6) S.out.k2
    go_wp2_with fail
    have hfin := S.out.fin
    try rw [show Fo.nil.len = 0 from rfl] at hfin
    try rw [show ([] : List (List UInt8 × List UInt8)).length = 0 from rfl] at hfin
    generalize (((((((W.setCell ⟨w.heap.size, 0, none⟩ (.int .i64 0)).setCell ⟨w.heap.size, 1, none⟩ (.string ⟨s.toArray⟩)).setCell ⟨w.heap.size, 2, none⟩ (.slice none 0 0)).setCell ⟨w.heap.size, 3, none⟩ (.int .i64 0)).setCell ⟨w.heap.size, 4, none⟩ (.int .i64 0)).setCell ⟨w.heap.size, 5, none⟩ (.string ⟨#[]⟩)).setCell ⟨w.heap.size, 6, none⟩ (.slice none 0 0)) = Wf at hfin ⊢
    obtain ⟨hrd, hbk, htv⟩ := hfin
    have u0 : Wf.cell? ⟨w.heap.size, 0, none⟩ = some (.int .i64 0) := cell_of_block hbk rfl
    have u1 : Wf.cell? ⟨w.heap.size, 1, none⟩ = some (.string ⟨s.toArray⟩) := cell_of_block hbk rfl
    have u2 : Wf.cell? ⟨w.heap.size, 2, none⟩ = some (.slice none 0 0) := cell_of_block hbk rfl
    have u3 : Wf.cell? ⟨w.heap.size, 3, none⟩ = some (.int .i64 0) := cell_of_block hbk rfl
    have u4 : Wf.cell? ⟨w.heap.size, 4, none⟩ = some (.int .i64 0) := cell_of_block hbk rfl
    have u5 : Wf.cell? ⟨w.heap.size, 5, none⟩ = some (.string ⟨#[]⟩) := cell_of_block hbk rfl
    have u6 : Wf.cell? ⟨w.heap.size, 6, none⟩ = some (.slice none 0 0) := cell_of_block hbk rfl
    refine bodyPost_ret (v := .agg #[.int .i64 0, .string ⟨s.toArray⟩, .slice none 0 0, .int .i64 0, .int .i64 0, .string ⟨#[]⟩, .slice none 0 0]) (by simp [results, Tryz.results165, go_sem, u0, u1, u2, u3, u4, u5, u6]) rfl ?_
    exact .yes HY.out htv hrd
end Go.Proofs.YtcgedpfolloinaaGreat
