/- What the proof of PrfTreeOrders rests on, part 9 of 11. -/
import Derived.Lib.Bytealg
import Derived.Deep.DeepCutAuto
import Derived.Test.YtcgedpfolloinaaGreatPPrfTreeOrders8
namespace Go.Proofs.YtcgedpfolloinaaGreat
open Go.RowKit Go.Shelf
attribute [local go_sem] Oper.semAt_some

set_option maxRecDepth 100000 in
set_option maxHeartbeats 4000000 in
theorem next_in (f : Fo) (p : List Int) (v pv : Value) (w : World) (hl : Lies w v f) (hs : Small f) (hp : IntsLie w pv p) (hpl : p.length ≤ 1000000) (he : foErr f = 0) (hgo : ((placeF f p).isSome = true) ∨ p = []) :
    CallsIn Fence.wide 4 Tryz.prog 38 #[v, pv] w (NextRes w (nextF f p)) := by
  have hsz := hs.size
  have CH := Lib.hid (fun w1 (hw : Below w.heap.size w w1) => tcheck_any f v w1 (lies_below hl hw) hs)
  have TA := Lib.hid (fun w1 (hw : Below w.heap.size w w1) => treeAt_any f p v pv w1 (lies_below hl hw) (ints_below hp hw) hpl)
  have HL := Lib.hid hl
  have HP := Lib.hid hp
  obtain ⟨a, cap, rfl⟩ := lies_form hl
  obtain ⟨pa, pc, rfl⟩ := ints_form hp
  have HR := Lib.hid (show nextF f p = match nextV (seqAt [] 0 f) p with | none => ([], false, 0) | some q => (q, true, 0) from (if_neg (by simpa using he)).trans (if_neg (fun h => hgo.elim (fun h2 => by rw [h.1] at h2; cases h2) (fun h2 => h.2 h2))))
  rw [he] at CH
  clear hl hs hp he
  have N0 := NC.start w (.slice pa p.length pc)
  refine callsIn_of_wp_marks Tryz.func38 rfl trivial ?_ rfl
  simp only [Tryz.ntmps38, List.size_toArray, List.length_cons, List.length_nil, Nat.reduceAdd, Nat.reduceSub, Array.replicate_succ, Array.replicate_zero, List.push_toArray, List.append_toArray, List.nil_append, List.cons_append]
  gi_wp2_with fail
  generalize (((w.alloc (.cells #[.slice pa p.length pc] 41)).alloc (.cells #[.slice none 0 0] 41)).alloc (.cells #[.bool false] 4)).alloc (.cells #[.int .i64 0] 32) = W0 at *
  refine ⟨trivial, (callsIn_wide.2 (CH.out W0 N0.bel)).mono ?_⟩
  rintro e w1 ⟨rfl, hb1⟩
  have N1 := Lib.hid (N0.below hb1)
  clear N0 hb1
  obtain ⟨c0, c1, f1, c2, f2, c3, f3, size, bel⟩ := N1.out
  gi_wp2_with fail
  refine ⟨trivial, (callsIn_wide.2 (TA.out w1 bel)).mono ?_⟩
  rintro e w2 ⟨h, ks, aa, ca, ak, ck, rfl, -, -, -, hb2⟩
  unfold aggOf
  have N2 := Lib.hid (N1.out.below hb2)
  clear c0 c1 f1 c2 f2 c3 f3 size bel hb2
  obtain ⟨c0, c1, f1, c2, f2, c3, f3, size, bel⟩ := N2.out
  have z0 : w.heap.size < w2.heap.size := by omega
  have z1 : w.heap.size + 1 < w2.heap.size := by omega
  have z2 : w.heap.size + 1 + 1 < w2.heap.size := by omega
  have z3 : w.heap.size + 1 + 1 + 1 < w2.heap.size := by omega
  generalize hbs : (placeF f p).isSome = bs at *
  cases bs with
  | true =>
    gi_wp2_with (refine ⟨trivial, ?_⟩; gi_at_call 79; refine (trees_in _ _ _ _ _).mono ?_; rintro e w' ⟨rfl, rfl⟩)
    obtain ⟨W0, hW0⟩ : ∃ W0, (w2.alloc (.cells #[.int .i64 h.k, .string ⟨h.l.toArray⟩, .slice aa h.ats.length ca, .int .i64 h.n, .int .i64 h.d, .string ⟨h.x.toArray⟩, .slice ak ks.len ck] 43)).alloc (.cells #[.slice a f.len cap] 28) = W0 := ⟨_, rfl⟩
    have hz0 : W0.heap.size = w2.heap.size + 1 + 1 := by rw [← hW0]; simp
    have hx0 : Below w2.heap.size w2 W0 := by rw [← hW0]; exact ((Below.refl _ _).alloc (Nat.le_refl _) _).alloc (by simp) _
    have hN0 : NxI w (w2.heap.size + 1 + 1) p (.slice pa p.length pc) [] (fun k => k < w2.heap.size + 1 + 1) W0 := ⟨fun _ => Iff.rfl, N2.out.below hx0, rfl, by omega⟩
    have hB0 := hN0.nc.bel
    have hc0 : W0.cell? ⟨w2.heap.size + 1, 0, none⟩ = some (.slice a f.len cap) := by rw [← hW0]; simp [go_sem]
    rw [hW0]
    clear hW0 hx0 c0 c1 f1 c2 f2 c3 f3 bel z0 z1 z2 z3
    refine range_own (gf := 123) (lb := #[.pointer (some ⟨w2.heap.size + 1, 0, none⟩)]) rfl (enters_of Tryz.func123 (by kernel_rfl) rfl)
      (trees_seq f (.slice a f.len cap) w (w2.heap.size + 1) HL.out (by omega)) (by omega) ?st (fun x args W h => by obtain ⟨_, _, rfl, _⟩ := h; rfl)
      (NxI w (w2.heap.size + 1 + 1) p (.slice pa p.length pc)) (fun c pre W => c = .ret ∧ NxX w (w2.heap.size + 1 + 1) p (.slice pa p.length pc) pre W) (fun k => k < w2.heap.size + 1 + 1) ?hI ?hIs ?hIx (fun k hk => by omega) hN0
      (fun x a' W => ∃ (b0 : Option Addr) (c0 : Nat) (pv' tv : Value) (u0 u1 u2 u7 u8 u9 u11 u12 u13 u14 u15 u16 u17 u18 u19 u20 u21 u22 u23 u24 u25 u26 u27 u28 u29 u30 : Value), x ∈ seqAt [] 0 f ∧ IntsF 0 W (.slice b0 x.p.length c0) (pathInts x.p) ∧ a' = { tmps := #[u0, u1, u2, .pointer (some ⟨w.heap.size, 0, none⟩), .pointer (some ⟨w.heap.size + 1, 0, none⟩), .pointer (some ⟨w.heap.size + 1 + 1, 0, none⟩), .pointer (some ⟨w.heap.size + 1 + 1 + 1, 0, none⟩), u7, u8, u9, .slice b0 x.p.length c0, u11, u12, u13, u14, u15, u16, u17, u18, u19, u20, u21, u22, u23, u24, u25, u26, u27, u28, u29, u30, pv', tv, undef, undef, undef, undef, undef, undef], defers := [] })
      (fun x a' W l o o' hl ho h => by
        obtain ⟨b0, c0, pv', tv, u0, u1, u2, u7, u8, u9, u11, u12, u13, u14, u15, u16, u17, u18, u19, u20, u21, u22, u23, u24, u25, u26, u27, u28, u29, u30, h1, h2, h3⟩ := h
        exact ⟨b0, c0, pv', tv, u0, u1, u2, u7, u8, u9, u11, u12, u13, u14, u15, u16, u17, u18, u19, u20, u21, u22, u23, u24, u25, u26, u27, u28, u29, u30, h1, intsF_putObj hl ho h2, h3⟩) ?assign ?body ?done ?stop
    case st =>
      intro o
      refine ⟨hB0.trans ((((Below.refl _ W0).alloc (Nat.le_refl _) _).alloc (by simp) _).mono hB0.size), ?_⟩
      simp [go_sem, hz0, hc0]
    case hI => exact fun s G W W' h sp => h.spared sp (by omega)
    case hIs =>
      rintro s G W ⟨g, nc, no, size⟩ k hk
      have := (g k).1 hk; omega
    case hIx =>
      rintro c s W l o o' hl ho hc ⟨rfl, ⟨q, a, cap, hq, nc, hi⟩, size⟩
      exact ⟨rfl, ⟨q, a, cap, hq, nc.same (fun k _ hk => World.putObj_heap_other (by omega)) (by simp) (nc.bel.trans ⟨rfl, rfl, rfl, by simp, fun k hk => World.putObj_heap_other (by omega)⟩), intsF_putObj ho hc hi⟩, by simpa using size⟩
    case assign =>
      rintro n' l pre x args G W K hI ⟨pv', tv, rfl, hp, ht, hx⟩ hz hK
      obtain ⟨b0, c0, rfl⟩ := ints_form hp
      have hp2 := intsF_of hp
      simp only [List.length_map] at hp2 ⊢
      clear hp
      gi_wp2
      exact hK _ _ (But.refl _ _) (Below.refl _ _) hI ⟨b0, c0, _, tv, _, _, _, _, _, _, _, _, _, _, _, _, _, _, _, _, _, _, _, _, _, _, _, _, _, _, hx, hp2, rfl⟩
    case body =>
      rintro n' l pre x a' G W ⟨g, nc, no, size⟩ ⟨b0, c0, pv', tv, u0, u1, u2, u7, u8, u9, u11, u12, u13, u14, u15, u16, u17, u18, u19, u20, u21, u22, u23, u24, u25, u26, u27, u28, u29, u30, hx, hpi, rfl⟩ hz
      have hG1 : G (w.heap.size + 1) := (g _).2 (by omega)
      have hG2 : G (w.heap.size + 1 + 1) := (g _).2 (by omega)
      have hG3 : G (w.heap.size + 1 + 1 + 1) := (g _).2 (by omega)
      have HG := Lib.hid g
      have hpl2 := path_len hx
      have hxl : (pathInts x.p).length ≤ 1000000 := by simp at hpl2 ⊢; omega
      have CM := Lib.hid (compareInts_any (pathInts x.p) p _ _ W (intsF_lies hpi) (ints_below HP.out nc.bel) hxl hpl)
      have CL := Lib.hid (cloneInts_any _ (pathInts x.p) W (intsF_lies hpi) hxl)
      have HNV := Lib.hid (nextV_snoc (x := x) no)
      have NCC := Lib.hid nc
      have HXL := Lib.hid (show (pathInts x.p).length = x.p.length by simp)
      clear g no hx hpl2 hxl
      obtain ⟨c0', c1, f1, c2, f2, c3, f3, size', bel⟩ := nc
      gi_wp2_with fail
      refine ⟨trivial, fun h => (by cases h), (CallsIn.inRound l (callsIn_wide.2 CM.out)).mono ?_⟩
      rintro e w3 ⟨rfl, rfl⟩
      generalize cmpL (pathInts x.p) p = c at *
      by_cases hc : 0 < c
      · have dc : decide (0 < c) = true := by simpa using hc
        have HNX := Lib.hid (HNV.out.trans (if_pos hc))
        clear hc
        gi_wp2_with fail
        refine ⟨trivial, fun h => (by cases h), (CallsIn.inRound l (callsIn_wide.2 CL.out)).mono ?_⟩
        rintro e w4 ⟨v4, rfl, hi4, hb4⟩
        obtain ⟨a4, cap4, rfl⟩ := intsF_form hi4
        have N4 := Lib.hid (NCC.out.below hb4)
        have hs4 := hb4.size
        have HB4 := Lib.hid hb4
        have HI4 := Lib.hid hi4
        clear c0' c1 f1 c2 f2 c3 f3 size' bel hb4 hi4
        obtain ⟨c0', c1, f1, c2, f2, c3, f3, size', bel⟩ := N4.out
        gi_wp2_with fail
        have N5 := N4.out.set3 (.slice a4 x.p.length cap4) (.bool true) (.int .i64 0)
        have hkp := ((Keeps.setCell (B := w.heap.size + 4) w4 (b := w.heap.size + 1) (by omega) 0 (.slice a4 x.p.length cap4)).trans (Keeps.setCell _ (b := w.heap.size + 1 + 1) (by omega) 0 (.bool true))).trans (Keeps.setCell _ (b := w.heap.size + 1 + 1 + 1) (by omega) 0 (.int .i64 0))
        have hi5 := intsF_keeps (intsF_mono (B' := w.heap.size + 4) (by have := NCC.out.size; omega) HI4.out) hkp
        have hz5 := hkp.1
        exact ⟨(((But.of_below HB4.out).trans (But.setCell _ hG1 _)).trans (But.setCell _ hG2 _)).trans (But.setCell _ hG3 _), rfl, ⟨pathInts x.p, a4, cap4, HNX.out, by rw [HXL.out]; exact N5, hi5⟩, by omega⟩
      · have dc : decide (0 < c) = false := by simpa using hc
        have HNX := Lib.hid (HNV.out.trans (if_neg hc))
        clear hc
        gi_wp2_with fail
        exact ⟨But.refl _ _, Below.refl _ _, G, fun k hk => .inl hk, HG.out, NCC.out, HNX.out, size⟩
    case done =>
      rintro D ys G W hD rfl ⟨g, nc, no, size⟩ hK
      have NCC := Lib.hid nc
      obtain ⟨c0, c1, f1, c2, f2, c3, f3, size', bel⟩ := nc
      gi_wp2
      have HN := Lib.hid (show nextF f p = ([], false, 0) by rw [HR.out, no])
      clear c0 c1 f1 c2 f2 c3 f3 bel
      have hK2 : (((W.setCell ⟨w.heap.size + 1, 0, none⟩ (.slice none 0 0)).setCell ⟨w.heap.size + 1 + 1, 0, none⟩ (.bool false)).setCell ⟨w.heap.size + 1 + 1 + 1, 0, none⟩ (.int .i64 0)).heap[D]? = some (.deferred (some [])) := (((KeepsOthers.setCell W _ _).trans (KeepsOthers.setCell _ _ _)).trans (KeepsOthers.setCell _ _ _)).same D _ hK rfl
      refine ⟨by simp, .inl ⟨_, _, rfl, run_takeDeferred hK2, ?_⟩⟩
      have hb2 := belowK_b (w := W0) (Nat.le_refl _) _ D _ (.deferred none) (by simpa using hD) hK2 rfl rfl
      have N3 := NCC.out.set3 (.slice none 0 0) (.bool false) (.int .i64 0)
      have N4 := N3.same (fun k _ hk => hb2.block k (by omega)) hb2.size (N3.bel.trans (hb2.mono (by omega)))
      generalize (((W.setCell ⟨w.heap.size + 1, 0, none⟩ (.slice none 0 0)).setCell ⟨w.heap.size + 1 + 1, 0, none⟩ (.bool false)).setCell ⟨w.heap.size + 1 + 1 + 1, 0, none⟩ (.int .i64 0)).putObj D (.deferred none) = Wf at N4 ⊢
      obtain ⟨c0, c1, f1, c2, f2, c3, f3, size', bel⟩ := N4
      refine ⟨.tuple #[.slice none 0 0, .bool false, .int .i64 0], by simp (maxDischargeDepth := 8) [results, go_sem, Tryz.results38, c1, c2, c3], ?_⟩
      rw [HN.out]
      exact ⟨none, 0, rfl, .inl ⟨_, _, rfl, rfl⟩, bel⟩
    case stop =>
      rintro D c pre W hD hp ⟨rfl, ⟨q, aq, capq, hq, nc, hi⟩, size⟩ hK
      have HN := Lib.hid (show nextF f p = (q, true, 0) by rw [HR.out, nextV_pre hp hq])
      gi_wp2
      refine ⟨by simp, .inl ⟨_, _, rfl, run_takeDeferred hK, ?_⟩⟩
      have hb2 := belowK_b (w := W0) (Nat.le_refl _) _ D _ (.deferred none) (by simpa using hD) hK rfl rfl
      have N4 := nc.same (fun k _ hk => hb2.block k (by omega)) hb2.size (nc.bel.trans (hb2.mono (by omega)))
      have hi4 := intsF_putObj (o' := .deferred none) hK rfl hi
      generalize W.putObj D (.deferred none) = Wf at N4 hi4 ⊢
      obtain ⟨c0, c1, f1, c2, f2, c3, f3, size', bel⟩ := N4
      refine ⟨.tuple #[.slice aq q.length capq, .bool true, .int .i64 0], by simp (maxDischargeDepth := 8) [results, go_sem, Tryz.results38, c1, c2, c3], ?_⟩
      rw [HN.out]
      exact ⟨aq, capq, rfl, intsF_mono (by omega) hi4, bel⟩
  | false =>
    have hp0 : p = [] := hgo.resolve_left (by decide)
    have hpd : decide ((0 : Int) < (p.length : Int)) = false := decide_eq_false (by rw [hp0]; simp)
    have hpd2 : decide (0 < p.length) = false := decide_eq_false (by rw [hp0]; simp)
    clear hp0
    gi_wp2_with (refine ⟨trivial, ?_⟩; gi_at_call 79; refine (trees_in _ _ _ _ _).mono ?_; rintro e w' ⟨rfl, rfl⟩)
    obtain ⟨W0, hW0⟩ : ∃ W0, (w2.alloc (.cells #[.int .i64 h.k, .string ⟨h.l.toArray⟩, .slice aa h.ats.length ca, .int .i64 h.n, .int .i64 h.d, .string ⟨h.x.toArray⟩, .slice ak ks.len ck] 43)).alloc (.cells #[.slice a f.len cap] 28) = W0 := ⟨_, rfl⟩
    have hz0 : W0.heap.size = w2.heap.size + 1 + 1 := by rw [← hW0]; simp
    have hx0 : Below w2.heap.size w2 W0 := by rw [← hW0]; exact ((Below.refl _ _).alloc (Nat.le_refl _) _).alloc (by simp) _
    have hN0 : NxI w (w2.heap.size + 1 + 1) p (.slice pa p.length pc) [] (fun k => k < w2.heap.size + 1 + 1) W0 := ⟨fun _ => Iff.rfl, N2.out.below hx0, rfl, by omega⟩
    have hB0 := hN0.nc.bel
    have hc0 : W0.cell? ⟨w2.heap.size + 1, 0, none⟩ = some (.slice a f.len cap) := by rw [← hW0]; simp [go_sem]
    rw [hW0]
    clear hW0 hx0 c0 c1 f1 c2 f2 c3 f3 bel z0 z1 z2 z3
    refine range_own (gf := 123) (lb := #[.pointer (some ⟨w2.heap.size + 1, 0, none⟩)]) rfl (enters_of Tryz.func123 (by kernel_rfl) rfl)
      (trees_seq f (.slice a f.len cap) w (w2.heap.size + 1) HL.out (by omega)) (by omega) ?st (fun x args W h => by obtain ⟨_, _, rfl, _⟩ := h; rfl)
      (NxI w (w2.heap.size + 1 + 1) p (.slice pa p.length pc)) (fun c pre W => c = .ret ∧ NxX w (w2.heap.size + 1 + 1) p (.slice pa p.length pc) pre W) (fun k => k < w2.heap.size + 1 + 1) ?hI ?hIs ?hIx (fun k hk => by omega) hN0
      (fun x a' W => ∃ (b0 : Option Addr) (c0 : Nat) (pv' tv : Value) (u0 u1 u2 u7 u8 u9 u11 u12 u13 u14 u15 u16 u17 u18 u19 u20 u21 u22 u23 u24 u25 u26 u27 u28 u29 u30 : Value), x ∈ seqAt [] 0 f ∧ IntsF 0 W (.slice b0 x.p.length c0) (pathInts x.p) ∧ a' = { tmps := #[u0, u1, u2, .pointer (some ⟨w.heap.size, 0, none⟩), .pointer (some ⟨w.heap.size + 1, 0, none⟩), .pointer (some ⟨w.heap.size + 1 + 1, 0, none⟩), .pointer (some ⟨w.heap.size + 1 + 1 + 1, 0, none⟩), u7, u8, u9, .slice b0 x.p.length c0, u11, u12, u13, u14, u15, u16, u17, u18, u19, u20, u21, u22, u23, u24, u25, u26, u27, u28, u29, u30, pv', tv, undef, undef, undef, undef, undef, undef], defers := [] })
      (fun x a' W l o o' hl ho h => by
        obtain ⟨b0, c0, pv', tv, u0, u1, u2, u7, u8, u9, u11, u12, u13, u14, u15, u16, u17, u18, u19, u20, u21, u22, u23, u24, u25, u26, u27, u28, u29, u30, h1, h2, h3⟩ := h
        exact ⟨b0, c0, pv', tv, u0, u1, u2, u7, u8, u9, u11, u12, u13, u14, u15, u16, u17, u18, u19, u20, u21, u22, u23, u24, u25, u26, u27, u28, u29, u30, h1, intsF_putObj hl ho h2, h3⟩) ?assign ?body ?done ?stop
    case st =>
      intro o
      refine ⟨hB0.trans ((((Below.refl _ W0).alloc (Nat.le_refl _) _).alloc (by simp) _).mono hB0.size), ?_⟩
      simp [go_sem, hz0, hc0]
    case hI => exact fun s G W W' h sp => h.spared sp (by omega)
    case hIs =>
      rintro s G W ⟨g, nc, no, size⟩ k hk
      have := (g k).1 hk; omega
    case hIx =>
      rintro c s W l o o' hl ho hc ⟨rfl, ⟨q, a, cap, hq, nc, hi⟩, size⟩
      exact ⟨rfl, ⟨q, a, cap, hq, nc.same (fun k _ hk => World.putObj_heap_other (by omega)) (by simp) (nc.bel.trans ⟨rfl, rfl, rfl, by simp, fun k hk => World.putObj_heap_other (by omega)⟩), intsF_putObj ho hc hi⟩, by simpa using size⟩
    case assign =>
      rintro n' l pre x args G W K hI ⟨pv', tv, rfl, hp, ht, hx⟩ hz hK
      obtain ⟨b0, c0, rfl⟩ := ints_form hp
      have hp2 := intsF_of hp
      simp only [List.length_map] at hp2 ⊢
      clear hp
      gi_wp2
      exact hK _ _ (But.refl _ _) (Below.refl _ _) hI ⟨b0, c0, _, tv, _, _, _, _, _, _, _, _, _, _, _, _, _, _, _, _, _, _, _, _, _, _, _, _, _, _, hx, hp2, rfl⟩
    case body =>
      rintro n' l pre x a' G W ⟨g, nc, no, size⟩ ⟨b0, c0, pv', tv, u0, u1, u2, u7, u8, u9, u11, u12, u13, u14, u15, u16, u17, u18, u19, u20, u21, u22, u23, u24, u25, u26, u27, u28, u29, u30, hx, hpi, rfl⟩ hz
      have hG1 : G (w.heap.size + 1) := (g _).2 (by omega)
      have hG2 : G (w.heap.size + 1 + 1) := (g _).2 (by omega)
      have hG3 : G (w.heap.size + 1 + 1 + 1) := (g _).2 (by omega)
      have HG := Lib.hid g
      have hpl2 := path_len hx
      have hxl : (pathInts x.p).length ≤ 1000000 := by simp at hpl2 ⊢; omega
      have CM := Lib.hid (compareInts_any (pathInts x.p) p _ _ W (intsF_lies hpi) (ints_below HP.out nc.bel) hxl hpl)
      have CL := Lib.hid (cloneInts_any _ (pathInts x.p) W (intsF_lies hpi) hxl)
      have HNV := Lib.hid (nextV_snoc (x := x) no)
      have NCC := Lib.hid nc
      have HXL := Lib.hid (show (pathInts x.p).length = x.p.length by simp)
      clear g no hx hpl2 hxl
      obtain ⟨c0', c1, f1, c2, f2, c3, f3, size', bel⟩ := nc
      gi_wp2_with fail
      refine ⟨trivial, fun h => (by cases h), (CallsIn.inRound l (callsIn_wide.2 CM.out)).mono ?_⟩
      rintro e w3 ⟨rfl, rfl⟩
      generalize cmpL (pathInts x.p) p = c at *
      by_cases hc : 0 < c
      · have dc : decide (0 < c) = true := by simpa using hc
        have HNX := Lib.hid (HNV.out.trans (if_pos hc))
        clear hc
        gi_wp2_with fail
        refine ⟨trivial, fun h => (by cases h), (CallsIn.inRound l (callsIn_wide.2 CL.out)).mono ?_⟩
        rintro e w4 ⟨v4, rfl, hi4, hb4⟩
        obtain ⟨a4, cap4, rfl⟩ := intsF_form hi4
        have N4 := Lib.hid (NCC.out.below hb4)
        have hs4 := hb4.size
        have HB4 := Lib.hid hb4
        have HI4 := Lib.hid hi4
        clear c0' c1 f1 c2 f2 c3 f3 size' bel hb4 hi4
        obtain ⟨c0', c1, f1, c2, f2, c3, f3, size', bel⟩ := N4.out
        gi_wp2_with fail
        have N5 := N4.out.set3 (.slice a4 x.p.length cap4) (.bool true) (.int .i64 0)
        have hkp := ((Keeps.setCell (B := w.heap.size + 4) w4 (b := w.heap.size + 1) (by omega) 0 (.slice a4 x.p.length cap4)).trans (Keeps.setCell _ (b := w.heap.size + 1 + 1) (by omega) 0 (.bool true))).trans (Keeps.setCell _ (b := w.heap.size + 1 + 1 + 1) (by omega) 0 (.int .i64 0))
        have hi5 := intsF_keeps (intsF_mono (B' := w.heap.size + 4) (by have := NCC.out.size; omega) HI4.out) hkp
        have hz5 := hkp.1
        exact ⟨(((But.of_below HB4.out).trans (But.setCell _ hG1 _)).trans (But.setCell _ hG2 _)).trans (But.setCell _ hG3 _), rfl, ⟨pathInts x.p, a4, cap4, HNX.out, by rw [HXL.out]; exact N5, hi5⟩, by omega⟩
      · have dc : decide (0 < c) = false := by simpa using hc
        have HNX := Lib.hid (HNV.out.trans (if_neg hc))
        clear hc
        gi_wp2_with fail
        exact ⟨But.refl _ _, Below.refl _ _, G, fun k hk => .inl hk, HG.out, NCC.out, HNX.out, size⟩
    case done =>
      rintro D ys G W hD rfl ⟨g, nc, no, size⟩ hK
      have NCC := Lib.hid nc
      obtain ⟨c0, c1, f1, c2, f2, c3, f3, size', bel⟩ := nc
      gi_wp2
      have HN := Lib.hid (show nextF f p = ([], false, 0) by rw [HR.out, no])
      clear c0 c1 f1 c2 f2 c3 f3 bel
      have hK2 : (((W.setCell ⟨w.heap.size + 1, 0, none⟩ (.slice none 0 0)).setCell ⟨w.heap.size + 1 + 1, 0, none⟩ (.bool false)).setCell ⟨w.heap.size + 1 + 1 + 1, 0, none⟩ (.int .i64 0)).heap[D]? = some (.deferred (some [])) := (((KeepsOthers.setCell W _ _).trans (KeepsOthers.setCell _ _ _)).trans (KeepsOthers.setCell _ _ _)).same D _ hK rfl
      refine ⟨by simp, .inl ⟨_, _, rfl, run_takeDeferred hK2, ?_⟩⟩
      have hb2 := belowK_b (w := W0) (Nat.le_refl _) _ D _ (.deferred none) (by simpa using hD) hK2 rfl rfl
      have N3 := NCC.out.set3 (.slice none 0 0) (.bool false) (.int .i64 0)
      have N4 := N3.same (fun k _ hk => hb2.block k (by omega)) hb2.size (N3.bel.trans (hb2.mono (by omega)))
      generalize (((W.setCell ⟨w.heap.size + 1, 0, none⟩ (.slice none 0 0)).setCell ⟨w.heap.size + 1 + 1, 0, none⟩ (.bool false)).setCell ⟨w.heap.size + 1 + 1 + 1, 0, none⟩ (.int .i64 0)).putObj D (.deferred none) = Wf at N4 ⊢
      obtain ⟨c0, c1, f1, c2, f2, c3, f3, size', bel⟩ := N4
      refine ⟨.tuple #[.slice none 0 0, .bool false, .int .i64 0], by simp (maxDischargeDepth := 8) [results, go_sem, Tryz.results38, c1, c2, c3], ?_⟩
      rw [HN.out]
      exact ⟨none, 0, rfl, .inl ⟨_, _, rfl, rfl⟩, bel⟩
    case stop =>
      rintro D c pre W hD hp ⟨rfl, ⟨q, aq, capq, hq, nc, hi⟩, size⟩ hK
      have HN := Lib.hid (show nextF f p = (q, true, 0) by rw [HR.out, nextV_pre hp hq])
      gi_wp2
      refine ⟨by simp, .inl ⟨_, _, rfl, run_takeDeferred hK, ?_⟩⟩
      have hb2 := belowK_b (w := W0) (Nat.le_refl _) _ D _ (.deferred none) (by simpa using hD) hK rfl rfl
      have N4 := nc.same (fun k _ hk => hb2.block k (by omega)) hb2.size (nc.bel.trans (hb2.mono (by omega)))
      have hi4 := intsF_putObj (o' := .deferred none) hK rfl hi
      generalize W.putObj D (.deferred none) = Wf at N4 hi4 ⊢
      obtain ⟨c0, c1, f1, c2, f2, c3, f3, size', bel⟩ := N4
      refine ⟨.tuple #[.slice aq q.length capq, .bool true, .int .i64 0], by simp (maxDischargeDepth := 8) [results, go_sem, Tryz.results38, c1, c2, c3], ?_⟩
      rw [HN.out]
      exact ⟨aq, capq, rfl, intsF_mono (by omega) hi4, bel⟩

theorem next_any (f : Fo) (p : List Int) (v pv : Value) (w : World) (hl : Lies w v f) (hs : Small f) (hp : IntsLie w pv p) (hpl : p.length ≤ 1000000) :
    Calls Tryz.prog 38 #[v, pv] w (NextRes w (nextF f p)) := by
  by_cases he : foErr f = 0
  · by_cases h : (placeF f p).isSome = false ∧ p ≠ []
    · exact next_absent f p v pv w hl hs hp hpl he h.1 h.2
    · refine callsIn_wide.1 (next_in f p v pv w hl hs hp hpl he ?_)
      by_cases hp0 : p = []
      · exact .inr hp0
      · refine .inl ?_
        cases hq : (placeF f p).isSome with
        | true => rfl
        | false => exact absurd ⟨hq, hp0⟩ h
  · exact next_err f p v pv w hl hs hp he
end Go.Proofs.YtcgedpfolloinaaGreat

namespace Go.Proofs.YtcgedpfolloinaaGreat
open Go.RowKit

theorem toldS_len {n d : Int} (h : chk n d = 0) : (toldS n d).length ≤ 22 := by
  obtain ⟨f1, f2, f3, f4⟩ := fit_of_chk h
  have h1 := numText1_len (n := (n.natAbs : Int)) (if d = 1 then [] else 47 :: numText d 1 []) (by omega)
  have h2 := numText1_len (n := d) [] (by omega)
  have h3 := signText_len n (numText (n.natAbs : Int) 1 (if d = 1 then [] else 47 :: numText d 1 []))
  have h4 : (if d = 1 then ([] : List UInt8) else 47 :: numText d 1 []).length ≤ 11 := by split <;> simp at h2 ⊢; omega
  unfold toldS
  omega
theorem printable_ok {l : List UInt8} {most : Int} (h : printableB l most = true) : (∀ c ∈ l, c.toNat < 128) ∧ (l.length : Int) ≤ most := by
  unfold printableB at h
  simp only [Bool.and_eq_true, decide_eq_true_eq, List.all_eq_true] at h
  exact ⟨fun c hc => by have := h.1 c hc; omega, h.2⟩
theorem named_ok {l : List UInt8} (h : namedB l = true) : l.length ≤ 8 := by
  unfold namedB at h
  simp only [Bool.and_eq_true, decide_eq_true_eq] at h
  omega
theorem attrs_ok : ∀ (ats : List (List UInt8 × List UInt8)) (before : List UInt8), attrsErr before ats = 0 → ∀ q ∈ ats, q.1.length ≤ 8 ∧ q.2.length ≤ 12 ∧ ∀ c ∈ q.2, c.toNat < 128
  | [], _, _, q, hq => by simp at hq
  | (n, v) :: r, before, h, q, hq => by
    simp only [attrsErr] at h
    by_cases h1 : namedB n = false
    · rw [if_pos h1] at h; cases h
    · rw [if_neg h1] at h
      by_cases h2 : leB n before = true
      · rw [if_pos h2] at h; cases h
      · rw [if_neg h2] at h
        by_cases h3 : printableB v 12 = false
        · rw [if_pos h3] at h; cases h
        · rw [if_neg h3] at h
          rcases List.mem_cons.1 hq with rfl | hq
          · have := printable_ok (by simpa using h3 : printableB v 12 = true)
            exact ⟨named_ok (by simpa using h1), by have := this.2; show v.length ≤ 12; omega, this.1⟩
          · exact attrs_ok r n h q hq
theorem quoQ_le (s : List UInt8) : (quoQ s).length ≤ 2 * s.length + 2 := by have := escQ_len s; simp [quoQ]; omega
theorem atsQ_le : ∀ (ats : List (List UInt8 × List UInt8)) (m : UInt8), (∀ q ∈ ats, q.1.length ≤ 8 ∧ q.2.length ≤ 12) → (atsQ m ats).length ≤ 36 * ats.length
  | [], m, _ => by simp [atsQ]
  | q :: t, m, h => by
    have h1 := atsQ_le t 44 (fun q hq => h q (by simp [hq]))
    have h2 := h q (by simp)
    have h3 := quoQ_le q.2
    simp only [atsQ, List.length_cons, List.length_append]
    omega
theorem head_ok {h : Hd} (e : headErr h = 0) : HdAsc h ∧ ∀ ks, (treeQ h ks).length ≤ 119 + (foQ true ks).length := by
  unfold headErr at e
  by_cases h0 : strayB h = true
  · rw [if_pos h0] at e; cases e
  rw [if_neg h0] at e
  unfold strayB at h0
  by_cases h1 : h.k = 1
  · rw [if_pos h1] at e
    simp [h1] at h0
    refine ⟨⟨by rw [h0.1]; simp, by rw [h0.2.2]; simp⟩, fun ks => ?_⟩
    have := toldS_len e
    unfold treeQ printE
    rw [if_pos h1, if_pos e]; omega
  · rw [if_neg h1] at e
    by_cases h2 : h.k = 2
    · rw [if_pos h2] at e
      simp [h2] at h0
      have hp : printableB h.x 24 = true := by
        by_cases hp : printableB h.x 24 = true
        · exact hp
        · rw [if_neg hp] at e; cases e
      have := printable_ok hp
      refine ⟨⟨this.1, by rw [h0.2.2]; simp⟩, fun ks => ?_⟩
      have := quoQ_le h.x
      unfold treeQ
      rw [if_neg h1, if_pos h2]; omega
    · rw [if_neg h2] at e
      by_cases h3 : h.k = 0
      · simp [h3] at h0
        unfold elemErr at e
        by_cases g1 : namedB h.l = false
        · rw [if_pos g1] at e; cases e
        rw [if_neg g1] at e
        by_cases g2 : 3 < h.ats.length
        · rw [if_pos g2] at e; cases e
        rw [if_neg g2] at e
        have ha := attrs_ok _ _ e
        refine ⟨⟨by rw [h0.2]; simp, fun q hq => (ha q hq).2.2⟩, fun ks => ?_⟩
        have hl := named_ok (by simpa using g1 : namedB h.l = true)
        have hb := atsQ_le h.ats 40 (fun q hq => ⟨(ha q hq).1, (ha q hq).2.1⟩)
        have hq : (attrsQ h.ats).length ≤ 109 := by unfold attrsQ; split <;> simp; omega
        unfold treeQ elemQ
        rw [if_neg h1, if_neg h2]
        simp only [List.length_append]
        split <;> simp <;> omega
      · simp [h1, h2, h3] at h0
theorem fo_ok : ∀ f : Fo, headsErr f = 0 → foAsc f ∧ ∀ b, (foQ b f).length ≤ 120 * f.size
  | .nil, _ => ⟨trivial, fun b => by simp [foQ, Fo.size]⟩
  | .cons h ks r, e => by
    unfold headsErr at e
    by_cases h1 : headErr h ≠ 0
    · rw [if_pos h1] at e; exact absurd e h1
    rw [if_neg h1] at e
    by_cases h2 : h.k ≠ 0 ∧ ks.len ≠ 0
    · rw [if_pos h2] at e; cases e
    rw [if_neg h2] at e
    by_cases h3 : headsErr ks ≠ 0
    · rw [if_pos h3] at e; exact absurd e h3
    rw [if_neg h3] at e
    have hh := head_ok (h := h) (by simpa using h1)
    have hk := fo_ok ks (by simpa using h3)
    have hr := fo_ok r e
    refine ⟨⟨hh.1, hk.1, hr.1⟩, fun b => ?_⟩
    have a1 := hh.2 ks
    have a2 := hk.2 true
    have a3 := hr.2 false
    simp only [foQ_cons, List.length_append, Fo.size]
    have : (if b = true then ([] : List UInt8) else [32]).length ≤ 1 := by split <;> simp
    omega
theorem valid_ok {f : Fo} (h : foErr f = 0) : foAsc f ∧ (foQ true f).length ≤ 48000 := by
  unfold foErr at h
  by_cases h1 : 400 < f.size
  · rw [if_pos h1] at h; cases h
  rw [if_neg h1] at h
  by_cases h2 : 40 < f.deep
  · rw [if_pos h2] at h; cases h
  rw [if_neg h2] at h
  have := fo_ok f h
  exact ⟨this.1, by have := this.2 true; omega⟩
theorem print_tree (f : Fo) (v : Value) (w : World) (hl : Lies w v f) (hs : Small f) :
    Calls Tryz.prog 56 #[v] w fun e w' => e = .returned (.tuple #[.string ⟨(printF f).1.toArray⟩, .int .i64 (printF f).2]) ∧ Below w.heap.size w w' :=
  tprint_all f v w hl hs (fun h => ⟨(valid_ok h).1, by have := (valid_ok h).2; omega⟩)
end Go.Proofs.YtcgedpfolloinaaGreat

namespace Go.Proofs.YtcgedpfolloinaaGreat
open Go.RowKit

def hdVal (h : Hd) (aa : Option Addr) (ca : Nat) : Value := .agg #[.int .i64 h.k, .string ⟨h.l.toArray⟩, .slice aa h.ats.length ca, .int .i64 h.n, .int .i64 h.d, .string ⟨h.x.toArray⟩]

set_option maxRecDepth 100000 in
set_option maxHeartbeats 2000000 in
theorem sameHead_refl (h : Hd) (aa : Option Addr) (ca : Nat) (ab : Option Addr) (cb : Nat) (w : World) (ha : AttrsLie w (.slice aa h.ats.length ca) h.ats) (hb : AttrsLie w (.slice ab h.ats.length cb) h.ats) :
    Calls Tryz.prog 63 #[hdVal h aa ca, hdVal h ab cb] w fun e w' => e = .returned (.bool true) ∧ Below w.heap.size w w' := by
  have HA := Lib.hid ha
  have HB := Lib.hid hb
  have hal : h.ats.length ≤ 4398046510976 := by
    rcases ha with ⟨_, _, _, h0⟩ | ⟨_, _, _, _, _, h0, _⟩
    · rw [h0]; simp
    · exact h0
  clear ha hb
  unfold hdVal
  go_enter Tryz.func63, Tryz.ntmps63
  go_wp2_with fail
  go_loopw [5] (fun i wr => ∃ k : Nat, i = .int .i64 k ∧ k ≤ h.ats.length ∧ wr.cell? ⟨w.heap.size, 2, none⟩ = some (.slice aa h.ats.length ca) ∧ wr.cell? ⟨w.heap.size + 1, 2, none⟩ = some (.slice ab h.ats.length cb) ∧ w.heap.size + 1 < wr.heap.size ∧ Below w.heap.size w wr) (fun i _ => h.ats.length - (intOf i).toNat)
  case atStart => exact ⟨0, rfl, Nat.zero_le _, by simp [go_sem], by simp [go_sem], by simp, by ((repeat' (first | exact Below.refl _ _ | assumption | refine Below.setCell ?_ ?_ _ | refine bdrewN ?_ _ | refine Below.drew ?_ | refine Below.alloc ?_ ?_ _ | refine bbehind ?_ (by assumption) ?_)); all_goals first | (simp; done) | (simp; omega) | omega)⟩
  case round =>
    obtain ⟨k, rfl, hk, c1, c2, hsz, hbw⟩ := hrel
    have hz0 : w.heap.size < wr.heap.size := by omega
    by_cases hlt : k < h.ats.length
    · have dk : decide (k < h.ats.length) = true := by simpa using hlt
      obtain ⟨ba, oa, capa, hs, -, -, hba, hca⟩ := attrs_row HA.out (by omega)
      simp only [Value.slice.injEq] at hs
      obtain ⟨rfl, -, rfl⟩ := hs
      obtain ⟨bb, ob, capb, hs, -, -, hbb, hcb⟩ := attrs_row HB.out (by omega)
      simp only [Value.slice.injEq] at hs
      obtain ⟨rfl, -, rfl⟩ := hs
      obtain ⟨q1, q2⟩ := hca k hlt
      obtain ⟨q3, q4⟩ := hcb k hlt
      have q1 := (hbw.cell (p := ⟨ba, oa + k * 2, none⟩) hba).trans q1
      have q2 := (hbw.cell (p := ⟨ba, oa + k * 2 + 1, none⟩) hba).trans q2
      have q3 := (hbw.cell (p := ⟨bb, ob + k * 2, none⟩) hbb).trans q3
      have q4 := (hbw.cell (p := ⟨bb, ob + k * 2 + 1, none⟩) hbb).trans q4
      have k1 : ba < wr.heap.size := by omega
      have k2 : bb < wr.heap.size := by omega
      clear hca hcb
      generalize (h.ats.getD k ([], [])).1 = nm at *
      generalize (h.ats.getD k ([], [])).2 = vl at *
      go_wp2_with fail
      refine wp_region_quiet_all (fun w' => ∃ x : Lower _, w' = x.val) (by kernel_rfl) (by kernel_rfl) ⟨⟨_, (Below.refl _ _).drew⟩, rfl⟩ ?_
      repeat (go_big_quiet_step (fail))
      refine wpQuiet_nil ?_
      intro w2 hx2
      obtain ⟨x2, hx2⟩ := hx2
      have hb2 := x2.prop
      rw [← hx2] at hb2
      clear hx2 x2
      obtain ⟨hc2, hf2⟩ := bcell hb2
      have hs2 := hb2.size
      try simp at hs2
      try have hz20 : w.heap.size < w2.heap.size := by omega
      try have hz21 : w.heap.size + 1 < w2.heap.size := by omega
      try have hz22 : w.heap.size + 1 + 1 < w2.heap.size := by omega
      try have hz23 : w.heap.size + 1 + 1 + 1 < w2.heap.size := by omega
      try have hz24 : w.heap.size + 1 + 1 + 1 + 1 < w2.heap.size := by omega
      try have hz25 : w.heap.size + 1 + 1 + 1 + 1 + 1 < w2.heap.size := by omega
      try have hy1_2 : w1.heap.size < w2.heap.size := by omega
      go_wp2_with fail
      go_roundw
      case rel => exact ⟨k + 1, by go_num, by omega, by rw [hc2 _ _ hz0]; exact c1, by rw [hc2 _ _ hsz]; exact c2, by omega, hbw.trans (hb2.mono hbw.size)⟩
      case measure => simp [intOf]; omega
    · have dk : decide (k < h.ats.length) = false := by simpa using hlt
      go_wp2_with fail
      go_ret
      exact ⟨rfl, hbw⟩

set_option maxRecDepth 100000 in
set_option maxHeartbeats 2000000 in
theorem same_of (f : Fo) (v u : Value) (w : World) (hl : Lies w v f) (hg : Lies w u f)
    (HK : ∀ k h ks, k < f.len → f.drop k = .cons h ks (f.drop (k + 1)) → ∀ v u w, Lies w v ks → Lies w u ks → Calls Tryz.prog 35 #[v, u] w fun e w' => e = .returned (.bool true) ∧ Below w.heap.size w w') :
    Calls Tryz.prog 35 #[v, u] w fun e w' => e = .returned (.bool true) ∧ Below w.heap.size w w' := by
  have HL := Lib.hid hl
  have HG := Lib.hid hg
  have HKK := Lib.hid HK
  have hfl := lies_len hl
  obtain ⟨a, cap, rfl⟩ := lies_form hl
  obtain ⟨a', cap', rfl⟩ := lies_form hg
  clear hl hg HK
  go_enter Tryz.func35, Tryz.ntmps35
  go_wp2_with fail
  go_loopw [5] (fun i wr => ∃ k : Nat, i = .int .i64 k ∧ k ≤ f.len ∧ Below w.heap.size w wr) (fun i _ => f.len - (intOf i).toNat)
  case atStart => exact ⟨0, rfl, Nat.zero_le _, Below.refl _ _⟩
  case round =>
    obtain ⟨k, rfl, hk, hbw⟩ := hrel
    have hsz := hbw.size
    by_cases hlt : k < f.len
    · have dk : decide (k < f.len) = true := by simpa using hlt
      obtain ⟨bf, of, cp, hs, -, -, hbf, hrow⟩ := lies_row HL.out (by omega)
      simp only [Value.slice.injEq] at hs
      obtain ⟨rfl, -, rfl⟩ := hs
      obtain ⟨bg, og, cp', hs, -, -, hbg, hrow'⟩ := lies_row HG.out (by omega)
      simp only [Value.slice.injEq] at hs
      obtain ⟨rfl, -, rfl⟩ := hs
      obtain ⟨hd, ks, e, ⟨qa0, qa1, ⟨va, qa2, ha⟩, qa3, qa4, qa5⟩, vk, qa6, hlk⟩ := row_get hrow hlt
      obtain ⟨hd', ks', e', ⟨qb0, qb1, ⟨vb, qb2, hb⟩, qb3, qb4, qb5⟩, vl, qb6, hlk'⟩ := row_get hrow' hlt
      rw [e] at e'
      cases e'
      obtain ⟨aa, ca, rfl⟩ := attrs_form ha
      obtain ⟨ab, cb, rfl⟩ := attrs_form hb
      obtain ⟨ak, ck, rfl⟩ := lies_form hlk
      obtain ⟨al, cl, rfl⟩ := lies_form hlk'
      have ra0 := (hbw.cell (p := ⟨bf, of + k * 7, none⟩) hbf).trans qa0
      have ra1 := (hbw.cell (p := ⟨bf, of + k * 7 + 1, none⟩) hbf).trans qa1
      have ra2 := (hbw.cell (p := ⟨bf, of + k * 7 + 2, none⟩) hbf).trans qa2
      have ra3 := (hbw.cell (p := ⟨bf, of + k * 7 + 3, none⟩) hbf).trans qa3
      have ra4 := (hbw.cell (p := ⟨bf, of + k * 7 + 4, none⟩) hbf).trans qa4
      have ra5 := (hbw.cell (p := ⟨bf, of + k * 7 + 5, none⟩) hbf).trans qa5
      have ra6 := (hbw.cell (p := ⟨bf, of + k * 7 + 6, none⟩) hbf).trans qa6
      have rb0 := (hbw.cell (p := ⟨bg, og + k * 7, none⟩) hbg).trans qb0
      have rb1 := (hbw.cell (p := ⟨bg, og + k * 7 + 1, none⟩) hbg).trans qb1
      have rb2 := (hbw.cell (p := ⟨bg, og + k * 7 + 2, none⟩) hbg).trans qb2
      have rb3 := (hbw.cell (p := ⟨bg, og + k * 7 + 3, none⟩) hbg).trans qb3
      have rb4 := (hbw.cell (p := ⟨bg, og + k * 7 + 4, none⟩) hbg).trans qb4
      have rb5 := (hbw.cell (p := ⟨bg, og + k * 7 + 5, none⟩) hbg).trans qb5
      have rb6 := (hbw.cell (p := ⟨bg, og + k * 7 + 6, none⟩) hbg).trans qb6
      have k1 : bf < wr.heap.size := by omega
      have k2 : bg < wr.heap.size := by omega
      have SH := Lib.hid (fun (x : Lower wr) => calls_lower x (sameHead_refl hd aa ca ab cb x.val (attrs_below (attrs_below ha hbw) x.prop) (attrs_below (attrs_below hb hbw) x.prop)))
      have SK := Lib.hid (fun (x : Lower wr) => calls_lower x (HKK.out k hd ks hlt e _ _ x.val (lies_below (lies_below hlk hbw) x.prop) (lies_below (lies_below hlk' hbw) x.prop)))
      unfold hdVal at SH
      clear e hrow hrow' ha hb hlk hlk' qa0 qa1 qa2 qa3 qa4 qa5 qa6 qb0 qb1 qb2 qb3 qb4 qb5 qb6
      go_wp2_with fail
      refine wp_region_quiet_all (fun w' => ∃ x : Lower _, w' = x.val) (by kernel_rfl) (by kernel_rfl) ⟨⟨_, (Below.refl _ _).drew⟩, rfl⟩ ?_
      repeat (go_big_quiet_step (first | (go_at_call 63; exact SH.out _) | (go_at_call 35; exact SK.out _)))
      refine wpQuiet_nil ?_
      intro w2 hx2
      obtain ⟨x2, hx2⟩ := hx2
      have hb2 := x2.prop
      rw [← hx2] at hb2
      clear hx2 x2
      obtain ⟨hc2, hf2⟩ := bcell hb2
      have hs2 := hb2.size
      try simp at hs2
      try have hz20 : w.heap.size < w2.heap.size := by omega
      try have hz21 : w.heap.size + 1 < w2.heap.size := by omega
      try have hz22 : w.heap.size + 1 + 1 < w2.heap.size := by omega
      try have hz23 : w.heap.size + 1 + 1 + 1 < w2.heap.size := by omega
      try have hz24 : w.heap.size + 1 + 1 + 1 + 1 < w2.heap.size := by omega
      try have hz25 : w.heap.size + 1 + 1 + 1 + 1 + 1 < w2.heap.size := by omega
      try have hy1_2 : w1.heap.size < w2.heap.size := by omega
      go_wp2_with fail
      go_roundw
      case rel => exact ⟨k + 1, by go_num, by omega, hbw.trans (hb2.mono hbw.size)⟩
      case measure => simp [intOf]; omega
    · have dk : decide (k < f.len) = false := by simpa using hlt
      go_wp2_with fail
      go_ret
      exact ⟨rfl, hbw⟩
theorem same_refl : ∀ (N : Nat) (f : Fo), f.size ≤ N → ∀ (v u : Value) (w : World), Lies w v f → Lies w u f → Calls Tryz.prog 35 #[v, u] w fun e w' => e = .returned (.bool true) ∧ Below w.heap.size w w' := by
  intro N
  induction N with
  | zero =>
    intro f hf v u w hl hg
    exact same_of f v u w hl hg (fun k h ks hk => by have := Fo.len_le_size f; omega)
  | succ N ih =>
    intro f hf v u w hl hg
    refine same_of f v u w hl hg (fun k h ks hk e v u w hl hg => ih ks ?_ v u w hl hg)
    have := Fo.size_app (f.take k) (f.drop k)
    rw [Fo.take_app_drop, e] at this
    simp only [Fo.size] at this
    omega
end Go.Proofs.YtcgedpfolloinaaGreat

namespace Go.Proofs.YtcgedpfolloinaaGreat
open Go.RowKit

theorem ints_three {W : World} {b : Nat} {T : TypeId} {x y z : Int} (h : W.heap[b]? = some (.cells #[.int .i64 x, .int .i64 y, .int .i64 z] T (0, 0))) (hb : b < W.heap.size) : IntsLie W (.slice (some ⟨b, 0, none⟩) 3 3) [x, y, z] := by
  refine .inr ⟨b, 0, 3, rfl, by simp, hb, fun k hk => ?_⟩
  match k, hk with
  | 0, _ => exact cell_of_block h rfl
  | 1, _ => exact cell_of_block h rfl
  | 2, _ => exact cell_of_block h rfl
theorem ex_small : Small exF := readP_small (l := exText) (by decide) read_ex
theorem ex_size : sizeT exF = (7, 0) := by decide +kernel
theorem ex_at : atErr exF [0, 1, 1] = 0 := by decide +kernel
theorem ex_place : placeF exF [0, 1, 1] = some (numHd (-2) 1, .nil) := by kernel_rfl
theorem ex_print : printF exF = (exText, 0) := by decide +kernel
theorem ex_next : nextF exF [0, 1, 1] = ([0, 2], true, 0) := by decide +kernel
theorem ex_alike : alikeB [0, 2] [0, 2] = true := by decide

set_option maxRecDepth 100000 in
set_option maxHeartbeats 8000000 in
theorem grown_any (w : World) : Calls Tryz.prog 16 #[] w fun e w' => e = .returned (.bool true) ∧ Below w.heap.size w w' := by
  have EX := Lib.hid (fun w => example_any w)
  have SZ := Lib.hid (fun v W (h : Lies W v exF) => tsize_any exF v W h ex_small)
  have AT := Lib.hid (fun v u W (h : Lies W v exF) (hp : IntsLie W u [0, 1, 1]) => at_any exF [0, 1, 1] v u W h ex_small hp (by decide))
  have PR := Lib.hid (fun v W (h : Lies W v exF) => print_tree exF v W h ex_small)
  have NX := Lib.hid (fun v u W (h : Lies W v exF) (hp : IntsLie W u [0, 1, 1]) => next_any exF [0, 1, 1] v u W h ex_small hp (by decide))
  have PA := Lib.hid (fun W => tparse_any exText W (by decide))
  have AL := Lib.hid (fun v u W (h1 : IntsLie W v [0, 2]) (h2 : IntsLie W u [0, 2]) => alike_any v u [0, 2] [0, 2] W h1 h2 (by decide) (by decide))
  have SR := Lib.hid (fun v u W (h1 : Lies W v exF) (h2 : Lies W u exF) => same_refl 100000 exF ex_small.size v u W h1 h2)
  rw [ex_size] at SZ
  rw [ex_print] at PR
  rw [ex_next] at NX
  rw [ex_alike] at AL
  simp only [parsed_ex] at PA
  have exT : exText = [100, 111, 99, 40, 108, 97, 110, 103, 61, 34, 101, 110, 34, 41, 123, 34, 104, 105, 34, 32, 98, 123, 51, 47, 52, 32, 45, 50, 125, 32, 98, 125, 32, 55] := rfl
  go_enter Tryz.func16, Tryz.ntmps16
  go_wp2_with fail
  refine (EX.out _).mono ?_
  rintro e w1 ⟨a, rfl, hl1, hb1⟩
  have B1 := Lib.hid hb1
  have L1 := Lib.hid hl1
  have hs1 := hb1.size
  clear hb1 hl1
  go_wp2_with fail
  refine (SZ.out _ _ L1.out).mono ?_
  rintro e w2 ⟨rfl, hb2⟩
  have L2 := Lib.hid (lies_below L1.out hb2)
  have B2 := Lib.hid (B1.out.trans (hb2.mono hs1))
  clear hb2
  go_wp2_with fail
  have I3 : IntsLie (w2.alloc (.cells #[.int .i64 0, .int .i64 1, .int .i64 1] 3)) (.slice (some ⟨w2.heap.size, 0, none⟩) 3 3) [0, 1, 1] := ints_three (World.alloc_heap_new _ _) (by simp)
  have L2' := lies_below L2.out ((Below.refl _ w2).alloc (Nat.le_refl _) (.cells #[.int .i64 0, .int .i64 1, .int .i64 1] 3))
  have B2' : Below w.heap.size w (w2.alloc (.cells #[.int .i64 0, .int .i64 1, .int .i64 1] 3)) := B2.out.alloc B2.out.size _
  generalize w2.alloc (.cells #[.int .i64 0, .int .i64 1, .int .i64 1] 3) = W3 at *
  generalize (Value.slice (some ⟨w2.heap.size, 0, none⟩) 3 3) = u3 at *
  refine (AT.out _ _ _ L2' I3).mono ?_
  rintro e w3 ⟨h, ks, aa, ca, ak, ck, rfl, _, _, hor, hb3⟩
  rw [ex_at, ex_place] at hor
  obtain ⟨rfl, rfl⟩ : h = numHd (-2) 1 ∧ ks = .nil := by
    rcases hor with ⟨_, h1⟩ | ⟨h1, _⟩
    · have := Prod.mk.inj (Option.some.inj h1); exact ⟨this.1.symm, this.2.symm⟩
    · exact absurd rfl h1
  have L3 := Lib.hid (lies_below L2' hb3)
  have B3 := Lib.hid (B2'.trans (hb3.mono B2'.size))
  rw [ex_at]
  clear hor hb3 L2' I3 B2' L2 B2
  unfold aggOf numHd
  go_wp2_with fail
  generalize hW4 : w3.alloc _ = W4
  have K4 := Lib.hid (show W4.heap[w3.heap.size]? = some (.cells #[.int .i64 1, .string ⟨#[]⟩, .slice aa 0 ca, .int .i64 (-2), .int .i64 1, .string ⟨#[]⟩, .slice ak 0 ck] 43 (0, 0)) by rw [← hW4]; exact World.alloc_heap_new _ _)
  have hb4 : Below w3.heap.size w3 W4 := by rw [← hW4]; exact (Below.refl _ w3).alloc (Nat.le_refl _) _
  have L4 := Lib.hid (lies_below L3.out hb4)
  have B4 := Lib.hid (B3.out.trans (hb4.mono B3.out.size))
  generalize w3.heap.size = T4 at *
  clear hb4 hW4
  refine (PR.out _ _ L4.out).mono ?_
  rintro e w5 ⟨rfl, hb5⟩
  have h4 := (Array.getElem?_eq_some_iff.1 K4.out).1
  have K5 := Lib.hid ((hb5.block _ h4).trans K4.out)
  have L5 := Lib.hid (lies_below L4.out hb5)
  have B5 := Lib.hid (B4.out.trans (hb5.mono B4.out.size))
  have hs5 := hb5.size
  clear hb5 K4 L4 B4
  go_wp2_with fail
  have I6 : IntsLie (w5.alloc (.cells #[.int .i64 0, .int .i64 1, .int .i64 1] 3)) (.slice (some ⟨w5.heap.size, 0, none⟩) 3 3) [0, 1, 1] := ints_three (World.alloc_heap_new _ _) (by simp)
  have hb6 : Below w5.heap.size w5 (w5.alloc (.cells #[.int .i64 0, .int .i64 1, .int .i64 1] 3)) := (Below.refl _ w5).alloc (Nat.le_refl _) _
  have L6 := lies_below L5.out hb6
  have B6 := B5.out.trans (hb6.mono B5.out.size)
  have K6 := (hb6.block T4 (by omega)).trans K5.out
  have hs6 := hb6.size
  generalize w5.alloc (.cells #[.int .i64 0, .int .i64 1, .int .i64 1] 3) = W6 at *
  generalize (Value.slice (some ⟨w5.heap.size, 0, none⟩) 3 3) = u6 at *
  refine (NX.out _ _ _ L6 I6).mono ?_
  rintro e w7 ⟨a7, c7, rfl, hi7, hb7⟩
  have I7 := Lib.hid hi7
  have K7 := Lib.hid ((hb7.block T4 (by omega)).trans K6)
  have L7 := Lib.hid (lies_below L6 hb7)
  have B7 := Lib.hid (B6.trans (hb7.mono B6.size))
  have hs7 := hb7.size
  clear hb7 hb6 K6 L6 B6 I6 hi7
  simp only
  go_wp2_with fail
  refine (PA.out _).mono ?_
  rintro e w8 ⟨v8, rfl, hv8, hb8⟩
  obtain ⟨a8, c8, rfl⟩ := liesF_form hv8
  have I8 := Lib.hid (intsF_keeps I7.out (Keeps.of_below hb8))
  have V8 := Lib.hid (liesF_lies hv8)
  have K8 := (hb8.block T4 (by omega)).trans K7.out
  have L8 := Lib.hid (lies_below L7.out hb8)
  have B8 := Lib.hid (B7.out.trans (hb8.mono B7.out.size))
  have hs8 := hb8.size
  have c3 : w8.cell? ⟨T4, 3, none⟩ = some (.int .i64 (-2)) := cell_of_block K8 rfl
  have c4 : w8.cell? ⟨T4, 4, none⟩ = some (.int .i64 1) := cell_of_block K8 rfl
  clear hb8 hv8 K8 I7 L7 K7 B7
  go_wp2_with fail
  have I9 : IntsLie (w8.alloc (.cells #[.int .i64 0, .int .i64 2] 3)) (.slice (some ⟨w8.heap.size, 0, none⟩) 2 2) [0, 2] := ints_pair (World.alloc_heap_new _ _) (by simp)
  have hb9 : Below w8.heap.size w8 (w8.alloc (.cells #[.int .i64 0, .int .i64 2] 3)) := (Below.refl _ w8).alloc (Nat.le_refl _) _
  have J9 := ints_below (intsF_lies I8.out) hb9
  have L9 := lies_below L8.out hb9
  have V9 := lies_below V8.out hb9
  have B9 := B8.out.trans (hb9.mono B8.out.size)
  generalize w8.alloc (.cells #[.int .i64 0, .int .i64 2] 3) = W9 at *
  generalize (Value.slice (some ⟨w8.heap.size, 0, none⟩) 2 2) = u9 at *
  refine (AL.out _ _ _ J9 I9).mono ?_
  rintro e w10 ⟨rfl, hb10⟩
  have L10 := Lib.hid (lies_below L9 hb10)
  have V10 := Lib.hid (lies_below V9 hb10)
  have B10 := Lib.hid (B9.trans (hb10.mono B9.size))
  clear hb10 hb9 J9 I9 L9 V9 B9
  go_wp2_with fail
  refine (SR.out _ _ _ L10.out V10.out).mono ?_
  rintro e w11 ⟨rfl, hb11⟩
  have B11 := Lib.hid (B10.out.trans (hb11.mono B10.out.size))
  clear hb11
  go_wp2_with fail
  go_ret
  exact ⟨rfl, B11.out⟩
end Go.Proofs.YtcgedpfolloinaaGreat

namespace Go.Proofs.YtcgedpfolloinaaGreat
open Go.RowKit Go.BigFrame

@[go_sem] theorem str_app (a b : List UInt8) : (⟨a.toArray⟩ ++ ⟨b.toArray⟩ : ByteArray) = ⟨(a ++ b).toArray⟩ := by
  apply ByteArray.ext; rw [ByteArray.data_append]; simp
end Go.Proofs.YtcgedpfolloinaaGreat

namespace Go.Proofs.YtcgedpfolloinaaGreat
open Go.RowKit

/-- a head's value. -/
def hdA (h : Hd) (va : Value) : Value := .agg #[.int .i64 h.k, .string ⟨h.l.toArray⟩, va, .int .i64 h.n, .int .i64 h.d, .string ⟨h.x.toArray⟩]

end Go.Proofs.YtcgedpfolloinaaGreat

namespace Go.Proofs.YtcgedpfolloinaaGreat
open Go.RowKit

/-- how two strings compare. -/
def strL (a b : List UInt8) : Int := Lib.compareBytes a b
def attrL (a b : List UInt8 × List UInt8) : Int := if strL a.1 b.1 ≠ 0 then strL a.1 b.1 else strL a.2 b.2
def atsL : List (List UInt8 × List UInt8) → List (List UInt8 × List UInt8) → Int
  | [], [] => 0
  | [], _ :: _ => -1
  | _ :: _, [] => 1
  | a :: r, b :: s => if attrL a b ≠ 0 then attrL a b else atsL r s
def headP5 (h i : Hd) : List Int := [cmpM h.k i.k, strL h.l i.l, atsL h.ats i.ats, (cmpT h.n h.d i.n i.d).1, strL h.x i.x]
def headL (h i : Hd) : Int := firstNZ (headP5 h i)

set_option maxRecDepth 100000 in
set_option maxHeartbeats 1000000 in
theorem cmpString_any (a b : List UInt8) (w : World) : Calls Tryz.prog 160 #[.string ⟨a.toArray⟩, .string ⟨b.toArray⟩] w fun e w' => e = .returned (.int .i64 (strL a b)) ∧ w = w' := by
  go_enter Tryz.func160, Tryz.ntmps160
  go_wp2
  rw [run_callFunc_extern Tryz.func176 (by kernel_rfl) (by kernel_rfl) (by kernel_rfl) (e := Extern.BytealgCompare.compare) (by kernel_rfl), Lib.run_compareString]
  simp only [Result.andThen]
  rw [Oper.upon_value]
  go_wp2
  go_ret
  exact ⟨rfl, rfl⟩
set_option maxHeartbeats 1000000 in
theorem strCompare_any (a b : List UInt8) (w : World) : Calls Tryz.prog 133 #[.string ⟨a.toArray⟩, .string ⟨b.toArray⟩] w fun e w' => e = .returned (.int .i64 (strL a b)) ∧ w = w' := by
  go_enter Tryz.func133, Tryz.ntmps133
  go_wp2_with (go_at_call 160; refine (cmpString_any _ _ _).mono ?_; rintro e w1 ⟨rfl, rfl⟩)
  go_ret
  exact ⟨rfl, rfl⟩
set_option maxHeartbeats 400000 in
theorem isNaNKind_any (n : Int) (w : World) : Calls Tryz.prog 159 #[.int .i64 n] w fun e w' => e = .returned (.bool false) ∧ w = w' := by
  go_enter Tryz.func159, Tryz.ntmps159
  go_wp2
  go_ret
  exact ⟨rfl, rfl⟩
set_option maxHeartbeats 400000 in
theorem cmpKind_any (a b : Int) (w : World) : Calls Tryz.prog 131 #[.int .i64 a, .int .i64 b] w fun e w' => e = .returned (.int .i64 (cmpM a b)) ∧ w = w' := by
  unfold cmpM
  by_cases h1 : a < b
  · rw [if_pos h1]
    go_enter Tryz.func131, Tryz.ntmps131
    go_wp2_with (go_at_call 159; refine (isNaNKind_any _ _).mono ?_; rintro e w1 ⟨rfl, rfl⟩)
    go_ret
    exact ⟨rfl, rfl⟩
  · rw [if_neg h1]
    by_cases h2 : b < a
    · rw [if_pos h2]
      go_enter Tryz.func131, Tryz.ntmps131
      go_wp2_with (go_at_call 159; refine (isNaNKind_any _ _).mono ?_; rintro e w1 ⟨rfl, rfl⟩)
      go_ret
      exact ⟨rfl, rfl⟩
    · rw [if_neg h2]
      go_enter Tryz.func131, Tryz.ntmps131
      go_wp2_with (go_at_call 159; refine (isNaNKind_any _ _).mono ?_; rintro e w1 ⟨rfl, rfl⟩)
      go_ret
      exact ⟨rfl, rfl⟩
set_option maxHeartbeats 1000000 in
theorem orInt_any (v : Value) (l : List Int) (w : World) (h : IntsLie w v l) (hl : l.length ≤ 1000000) :
    Calls Tryz.prog 161 #[v] w fun e w' => e = .returned (.int .i64 (firstNZ l)) ∧ w = w' := by
  obtain ⟨a, cap, rfl⟩ := ints_form h
  have H := Lib.hid h
  clear h
  go_enter Tryz.func161, Tryz.ntmps161
  go_wp2_with fail
  go_loop [8] (fun i => ∃ k : Nat, i = .int .i64 k ∧ k ≤ l.length ∧ firstNZ l = firstNZ (l.drop k)) (fun i => l.length - (intOf i).toNat)
  case atStart => exact ⟨0, rfl, Nat.zero_le _, rfl⟩
  case round =>
    obtain ⟨k, rfl, hk, he⟩ := hrel
    have HE := Lib.hid he
    clear he
    by_cases hlt : k < l.length
    · obtain ⟨b, off, cap', hs, hcap, hb, hc⟩ := ints_cells H.out (by intro e; subst e; simp at hlt)
      simp only [Value.slice.injEq] at hs
      obtain ⟨rfl, -, rfl⟩ := hs
      have c := hc k hlt
      have HS := Lib.hid (HE.out.trans (firstNZ_drop hlt))
      clear hc
      generalize l.getD k 0 = x at *
      by_cases hx : x = 0
      · have HX := Lib.hid (HS.out.trans (if_neg (by simpa using hx)))
        have b0 : (x != 0) = false := by simpa using hx
        clear hx
        go_wp2_with fail
        go_round
        case rel => exact ⟨k + 1, by go_num, by omega, HX.out⟩
        case measure => simp [intOf]; omega
      · have HX := Lib.hid (HS.out.trans (if_pos (by simpa using hx)))
        have b0 : (x != 0) = true := by simpa using hx
        clear hx
        go_wp2_with fail
        go_ret
        exact ⟨ret_int' HX.out.symm, rfl⟩
    · have HX := Lib.hid (show firstNZ l = 0 from HE.out.trans (by rw [List.drop_of_length_le (by omega)]; rfl))
      go_wp2_with fail
      go_ret
      exact ⟨ret_int' HX.out.symm, rfl⟩

theorem firstNZ_two (a b : Int) : firstNZ [a, b] = if a ≠ 0 then a else b := by
  unfold firstNZ firstNZ firstNZ
  split
  · rfl
  · split <;> simp_all

set_option maxRecDepth 100000 in
set_option maxHeartbeats 2000000 in
theorem compareAttrs_any (a b : List UInt8 × List UInt8) (w : World) :
    Calls Tryz.prog 136 #[.agg #[.string ⟨a.1.toArray⟩, .string ⟨a.2.toArray⟩], .agg #[.string ⟨b.1.toArray⟩, .string ⟨b.2.toArray⟩]] w fun e w' => e = .returned (.int .i64 (attrL a b)) ∧ Below w.heap.size w w' := by
  obtain ⟨a1, a2⟩ := a
  obtain ⟨b1, b2⟩ := b
  have HV := Lib.hid (show attrL (a1, a2) (b1, b2) = firstNZ [strL a1 b1, strL a2 b2] from (firstNZ_two _ _).symm)
  simp only
  rw [HV.out]
  clear HV
  go_enter Tryz.func136, Tryz.ntmps136
  go_wp2_with fail
  have k0 : ((w.alloc (.cells #[.string ⟨a1.toArray⟩, .string ⟨a2.toArray⟩] 81)).alloc (.cells #[.string ⟨b1.toArray⟩, .string ⟨b2.toArray⟩] 81)).heap[w.heap.size]? = _ := (Below.heap_alloc _ _ _ (by simp)).trans (World.alloc_heap_new w _)
  have k1 := World.alloc_heap_new (w.alloc (.cells #[.string ⟨a1.toArray⟩, .string ⟨a2.toArray⟩] 81)) (.cells #[.string ⟨b1.toArray⟩, .string ⟨b2.toArray⟩] 81)
  rw [show (w.alloc (.cells #[.string ⟨a1.toArray⟩, .string ⟨a2.toArray⟩] 81)).heap.size = w.heap.size + 1 by simp] at k1
  have B0 : Below w.heap.size w ((w.alloc (.cells #[.string ⟨a1.toArray⟩, .string ⟨a2.toArray⟩] 81)).alloc (.cells #[.string ⟨b1.toArray⟩, .string ⟨b2.toArray⟩] 81)) := by ((repeat' (first | exact Below.refl _ _ | assumption | refine Below.setCell ?_ ?_ _ | refine bdrewN ?_ _ | refine Below.drew ?_ | refine Below.alloc ?_ ?_ _ | refine bbehind ?_ (by assumption) ?_)); all_goals first | (simp; done) | (simp; omega) | omega)
  have hs0 : w.heap.size + 2 ≤ ((w.alloc (.cells #[.string ⟨a1.toArray⟩, .string ⟨a2.toArray⟩] 81)).alloc (.cells #[.string ⟨b1.toArray⟩, .string ⟨b2.toArray⟩] 81)).heap.size := by simp
  generalize (w.alloc (.cells #[.string ⟨a1.toArray⟩, .string ⟨a2.toArray⟩] 81)).alloc (.cells #[.string ⟨b1.toArray⟩, .string ⟨b2.toArray⟩] 81) = W at *
  have d0 : W.cell? ⟨w.heap.size, 0, none⟩ = some (.string ⟨a1.toArray⟩) := cell_of_block k0 rfl
  have d1 : W.cell? ⟨w.heap.size, 1, none⟩ = some (.string ⟨a2.toArray⟩) := cell_of_block k0 rfl
  have d2 : W.cell? ⟨w.heap.size + 1, 0, none⟩ = some (.string ⟨b1.toArray⟩) := cell_of_block k1 rfl
  have d3 : W.cell? ⟨w.heap.size + 1, 1, none⟩ = some (.string ⟨b2.toArray⟩) := cell_of_block k1 rfl
  have n0 : w.heap.size < W.heap.size := by omega
  have n1 : w.heap.size + 1 < W.heap.size := by omega
  clear k0 k1
  refine wp_region_quiet_tail (fun w' => ∃ x : Lower W, w' = x.val) 10 (by kernel_rfl) (by kernel_rfl) ⟨⟨_, (Below.refl _ _).drew⟩, rfl⟩ ?_
  simp only [List.take_succ_cons, List.take_zero, List.drop_succ_cons, List.drop_zero]
  repeat (go_big_quiet_step ((go_at_call 133; exact calls_lower_same _ (strCompare_any _ _ _))))
  refine wpQuiet_nil ?_
  intro w1 hx1
  obtain ⟨x1, hx1⟩ := hx1
  have hb1 := x1.prop
  rw [← hx1] at hb1
  clear hx1 x1 d0 d1 d2 d3
  have B1 := B0.trans (hb1.mono (by omega))
  go_wp2_with fail
  have B2 : Below w.heap.size w (w1.alloc (.cells #[.int .i64 (strL a1 b1), .int .i64 (strL a2 b2)] 3)) := B1.alloc B1.size _
  have hi := ints_pair (World.alloc_heap_new w1 (.cells #[.int .i64 (strL a1 b1), .int .i64 (strL a2 b2)] 3)) (by simp)
  generalize w1.alloc (.cells #[.int .i64 (strL a1 b1), .int .i64 (strL a2 b2)] 3) = W2 at *
  refine (orInt_any _ _ _ hi (by simp)).mono ?_
  rintro e w3 ⟨rfl, rfl⟩
  go_wp2_with fail
  go_ret
  exact ⟨rfl, B2⟩
end Go.Proofs.YtcgedpfolloinaaGreat

namespace Go.Proofs.YtcgedpfolloinaaGreat
open Go.RowKit

theorem heads_parts {h : Hd} {ks r : Fo} (e : headsErr (.cons h ks r) = 0) : headErr h = 0 ∧ (h.k ≠ 0 → ks = .nil) ∧ headsErr ks = 0 ∧ headsErr r = 0 := by
  unfold headsErr at e
  by_cases h1 : headErr h ≠ 0
  · rw [if_pos h1] at e; exact absurd e h1
  rw [if_neg h1] at e
  by_cases h2 : h.k ≠ 0 ∧ ks.len ≠ 0
  · rw [if_pos h2] at e; cases e
  rw [if_neg h2] at e
  by_cases h3 : headsErr ks ≠ 0
  · rw [if_pos h3] at e; exact absurd e h3
  rw [if_neg h3] at e
  refine ⟨by simpa using h1, fun hk => ?_, by simpa using h3, e⟩
  cases ks with
  | nil => rfl
  | cons _ _ _ => exact absurd ⟨hk, by simp [Fo.len]⟩ h2
theorem heads_of {f : Fo} (h : foErr f = 0) : headsErr f = 0 := by
  unfold foErr at h
  by_cases h1 : 400 < f.size
  · rw [if_pos h1] at h; cases h
  rw [if_neg h1] at h
  by_cases h2 : 40 < f.deep
  · rw [if_pos h2] at h; cases h
  rwa [if_neg h2] at h
end Go.Proofs.YtcgedpfolloinaaGreat

namespace Go.Proofs.YtcgedpfolloinaaGreat
open Go.RowKit

theorem strL_refl : ∀ a : List UInt8, strL a a = 0
  | [] => rfl
  | c :: t => by
    have := strL_refl t
    unfold strL at this ⊢
    simp [Lib.compareBytes, this]
theorem u8_lt_irrefl {a b : UInt8} (h : a < b) : ¬ b < a ∧ ¬ a = b := by
  rw [UInt8.lt_iff_toNat_lt] at h
  refine ⟨fun k => ?_, fun k => ?_⟩
  · rw [UInt8.lt_iff_toNat_lt] at k; omega
  · rw [k] at h; omega
theorem u8_tri (a b : UInt8) (h1 : ¬ a < b) (h2 : ¬ b < a) : a = b := by
  rw [UInt8.lt_iff_toNat_lt] at h1 h2
  exact UInt8.toNat_inj.1 (by omega)
theorem strL_less : ∀ a b : List UInt8, strL a b = if Op.bytesLess a b = true then -1 else if Op.bytesLess b a = true then 1 else 0
  | [], [] => rfl
  | [], _ :: _ => by simp [strL, Lib.compareBytes, Op.bytesLess]
  | _ :: _, [] => by simp [strL, Lib.compareBytes, Op.bytesLess]
  | a :: ar, b :: br => by
    have ih := strL_less ar br
    unfold strL at ih ⊢
    rw [Lib.compareBytes]
    by_cases h1 : a < b
    · rw [if_pos h1, if_pos (by simp [Op.bytesLess, h1])]
    · rw [if_neg h1]
      by_cases h2 : b < a
      · have h3 : ¬ a = b := fun e => (u8_lt_irrefl h2).2 e.symm
        rw [if_pos h2, if_neg (by simp [Op.bytesLess, h1, h3]), if_pos (by simp [Op.bytesLess, h2])]
      · obtain rfl := u8_tri a b h1 h2
        rw [if_neg h2, ih]
        simp [Op.bytesLess, h1]
theorem less_not {a b : List UInt8} (h : Op.bytesLess a b = true) : Op.bytesLess b a = false ∧ (a == b) = false := by
  have h1 := strL_less a b
  rw [if_pos h] at h1
  have h2 := strL_refl a
  refine ⟨?_, ?_⟩
  · cases h3 : Op.bytesLess b a with
    | false => rfl
    | true =>
      exfalso
      revert h h3
      clear h1 h2
      induction a generalizing b with
      | nil => intro h h3; cases b <;> simp [Op.bytesLess] at h h3
      | cons x a ih =>
        intro h h3
        cases b with
        | nil => simp [Op.bytesLess] at h
        | cons y b =>
          simp only [Op.bytesLess, Bool.or_eq_true, decide_eq_true_eq, Bool.and_eq_true, beq_iff_eq] at h h3
          rcases h with h | ⟨rfl, h⟩
          · rcases h3 with h3 | ⟨h3, _⟩
            · exact (u8_lt_irrefl h).1 h3
            · exact (u8_lt_irrefl h).2 h3.symm
          · rcases h3 with h3 | ⟨_, h3⟩
            · exact (u8_lt_irrefl h3).2 rfl
            · exact ih h h3
  · rw [beq_eq_false_iff_ne]
    rintro rfl
    rw [h2] at h1
    cases h1
theorem strL_eq : ∀ {a b : List UInt8}, strL a b = 0 → a = b
  | [], [], _ => rfl
  | [], _ :: _, h => by simp [strL, Lib.compareBytes] at h
  | _ :: _, [], h => by simp [strL, Lib.compareBytes] at h
  | a :: ar, b :: br, h => by
    unfold strL at h
    rw [Lib.compareBytes] at h
    by_cases h1 : a < b
    · rw [if_pos h1] at h; cases h
    · rw [if_neg h1] at h
      by_cases h2 : b < a
      · rw [if_pos h2] at h; cases h
      · rw [if_neg h2] at h
        rw [u8_tri a b h1 h2, strL_eq (a := ar) (b := br) h]

set_option maxRecDepth 100000 in
set_option maxHeartbeats 1000000 in
theorem qorder_any (a b : List UInt8) (w : World) : Calls Tryz.prog 141 #[.string ⟨a.toArray⟩, .string ⟨b.toArray⟩] w fun e w' => e = .returned (.int .i64 (strL a b)) ∧ w = w' := by
  rw [strL_less]
  cases h1 : Op.bytesLess a b with
  | true =>
    obtain ⟨h2, h3⟩ := less_not h1
    rw [if_pos rfl]
    go_enter Tryz.func141, Tryz.ntmps141
    go_wp2
    go_ret
    exact ⟨rfl, rfl⟩
  | false =>
    rw [if_neg (by simp)]
    cases h2 : Op.bytesLess b a with
    | true =>
      rw [if_pos rfl]
      have h3 : (a == b) = false := by have := (less_not h2).2; rw [beq_eq_false_iff_ne] at this ⊢; exact fun e => this e.symm
      have h4 : (b == a) = false := (less_not h2).2
      go_enter Tryz.func141, Tryz.ntmps141
      go_wp2
      go_ret
      exact ⟨rfl, rfl⟩
    | false =>
      rw [if_neg (by simp)]
      have h3 : a = b := strL_eq (by rw [strL_less, h1, h2]; rfl)
      subst h3
      go_enter Tryz.func141, Tryz.ntmps141
      go_wp2
      go_ret
      exact ⟨rfl, rfl⟩
def signM (n : Int) : Int := if n < 0 then -1 else if 0 < n then 1 else 0
set_option maxHeartbeats 1000000 in
theorem qsign_any (n : Int) (w : World) : Calls Tryz.prog 142 #[.int .i64 n] w fun e w' => e = .returned (.int .i64 (signM n)) ∧ w = w' := by
  unfold signM
  by_cases h1 : n < 0
  · rw [if_pos h1]
    go_enter Tryz.func142, Tryz.ntmps142
    go_wp2
    go_ret
    exact ⟨rfl, rfl⟩
  · rw [if_neg h1]
    by_cases h2 : 0 < n
    · rw [if_pos h2]
      go_enter Tryz.func142, Tryz.ntmps142
      go_wp2
      go_ret
      exact ⟨rfl, rfl⟩
    · rw [if_neg h2]
      go_enter Tryz.func142, Tryz.ntmps142
      go_wp2
      go_ret
      exact ⟨rfl, rfl⟩
theorem sign_cmp (a b : Nat) : signM ((a : Int) - (b : Int)) = cmpM a b := by
  unfold signM cmpM
  rcases Nat.lt_trichotomy a b with h | h | h
  · rw [if_pos (by omega), if_pos (by omega)]
  · rw [if_neg (by omega), if_neg (by omega), if_neg (by omega), if_neg (by omega)]
  · rw [if_neg (by omega), if_pos (by omega), if_neg (by omega), if_pos (by omega)]
end Go.Proofs.YtcgedpfolloinaaGreat

namespace Go.Proofs.YtcgedpfolloinaaGreat
open Go.RowKit

theorem atsL_drop {a b : List (List UInt8 × List UInt8)} {k : Nat} (ha : k < a.length) (hb : k < b.length) :
    atsL (a.drop k) (b.drop k) = if attrL (a.getD k ([], [])) (b.getD k ([], [])) ≠ 0 then attrL (a.getD k ([], [])) (b.getD k ([], [])) else atsL (a.drop (k + 1)) (b.drop (k + 1)) := by
  rw [List.drop_eq_getElem_cons ha, List.drop_eq_getElem_cons hb, atsL]
  simp only [List.getD_eq_getElem?_getD, List.getElem?_eq_getElem ha, List.getElem?_eq_getElem hb, Option.getD_some]
theorem atsL_end {a b : List (List UInt8 × List UInt8)} {k : Nat} (hk : k = min a.length b.length) : atsL (a.drop k) (b.drop k) = cmpM a.length b.length := by
  unfold cmpM
  rcases Nat.lt_trichotomy a.length b.length with h | h | h
  · rw [if_pos (by omega), show a.drop k = [] by rw [List.drop_eq_nil_iff]; omega]
    cases hd : b.drop k with
    | nil => rw [List.drop_eq_nil_iff] at hd; omega
    | cons c t => rfl
  · rw [if_neg (by omega), if_neg (by omega), show a.drop k = [] by rw [List.drop_eq_nil_iff]; omega, show b.drop k = [] by rw [List.drop_eq_nil_iff]; omega]
    rfl
  · rw [if_neg (by omega), if_pos (by omega), show b.drop k = [] by rw [List.drop_eq_nil_iff]; omega]
    cases hd : a.drop k with
    | nil => rw [List.drop_eq_nil_iff] at hd; omega
    | cons c t => rfl

theorem attrs_len {w : World} {v : Value} {l : List (List UInt8 × List UInt8)} (h : AttrsLie w v l) : l.length ≤ 4398046510976 := by
  rcases h with ⟨_, _, _, rfl⟩ | ⟨_, _, _, _, _, h, _⟩
  · simp
  · exact h
theorem attrs_at {w : World} {a : Option Addr} {cap : Nat} {l : List (List UInt8 × List UInt8)} (h : AttrsLie w (.slice a l.length cap) l) (h0 : l ≠ []) :
    ∃ b off, a = some ⟨b, off, none⟩ ∧ l.length ≤ cap ∧ b < w.heap.size ∧ ∀ k, k < l.length → w.cell? ⟨b, off + k * 2, none⟩ = some (.string ⟨(l.getD k ([], [])).1.toArray⟩) ∧ w.cell? ⟨b, off + k * 2 + 1, none⟩ = some (.string ⟨(l.getD k ([], [])).2.toArray⟩) := by
  rcases h with ⟨_, _, _, h⟩ | ⟨b, off, cap', hv, h1, _, h2, h3⟩
  · exact absurd h h0
  · simp only [Value.slice.injEq] at hv
    obtain ⟨rfl, -, rfl⟩ := hv
    exact ⟨b, off, rfl, h1, h2, h3⟩

set_option maxRecDepth 100000 in
set_option maxHeartbeats 4000000 in
theorem listsAttr_any (a b : List (List UInt8 × List UInt8)) (va vb : Value) (w : World) (ha : AttrsLie w va a) (hb : AttrsLie w vb b) :
    Calls Tryz.prog 135 #[va, vb, .func (.func 136) #[] #[]] w fun e w' => e = .returned (.int .i64 (atsL a b)) ∧ Below w.heap.size w w' := by
  obtain ⟨pa, ca, rfl⟩ := attrs_form ha
  obtain ⟨pb, cb, rfl⟩ := attrs_form hb
  have HA := Lib.hid ha
  have HB := Lib.hid hb
  have la := attrs_len ha
  have lb := attrs_len hb
  obtain ⟨n, hn⟩ : ∃ n, min a.length b.length = n := ⟨_, rfl⟩
  have hni : min (a.length : Int) (b.length : Int) = (n : Int) := by omega
  clear ha hb
  by_cases hab : b.length < a.length
  · have hab' : decide (b.length < a.length) = true := by simpa using hab
    go_enter Tryz.func135, Tryz.ntmps135
    go_wp2_with fail
    go_loopw [14] (fun i wr => ∃ k : Nat, i = .int .i64 k ∧ k ≤ n ∧ atsL a b = atsL (a.drop k) (b.drop k) ∧ Below w.heap.size w wr) (fun i _ => n - (intOf i).toNat)
    case atStart => exact ⟨0, rfl, Nat.zero_le _, rfl, Below.refl _ _⟩
    case round =>
      obtain ⟨k, rfl, hk, he, hbw⟩ := hrel
      have HE := Lib.hid he
      have BW := Lib.hid hbw
      have hsr := hbw.size
      clear he hbw
      by_cases hlt : k < n
      · have hka : k < a.length := by omega
        have hkb : k < b.length := by omega
        obtain ⟨ga, oa, rfl, hca, hga, hxa⟩ := attrs_at HA.out (by intro e; rw [e] at hka; simp at hka)
        obtain ⟨gb, ob, rfl, hcb, hgb, hxb⟩ := attrs_at HB.out (by intro e; rw [e] at hkb; simp at hkb)
        have HS := Lib.hid (HE.out.trans (atsL_drop hka hkb))
        obtain ⟨x1, x2⟩ := hxa k hka
        obtain ⟨y1, y2⟩ := hxb k hkb
        have c1 := (BW.out.cell (p := ⟨ga, oa + k * 2, none⟩) hga).trans x1
        have c2 := (BW.out.cell (p := ⟨ga, oa + k * 2 + 1, none⟩) hga).trans x2
        have c3 := (BW.out.cell (p := ⟨gb, ob + k * 2, none⟩) hgb).trans y1
        have c4 := (BW.out.cell (p := ⟨gb, ob + k * 2 + 1, none⟩) hgb).trans y2
        have na : ga < wr.heap.size := by omega
        have nb : gb < wr.heap.size := by omega
        clear hxa hxb x1 x2 y1 y2
        generalize a.getD k ([], []) = p at *
        generalize b.getD k ([], []) = q at *
        go_wp2_with fail
        refine wp_region_quiet_tail (fun w' => ∃ x : Lower _, w' = x.val) 9 (by kernel_rfl) (by kernel_rfl) ⟨⟨_, (Below.refl _ _).drew⟩, rfl⟩ ?_
        simp only [List.take_succ_cons, List.take_zero, List.drop_succ_cons, List.drop_zero]
        repeat (go_big_quiet_step (fail))
        refine wpQuiet_nil ?_
        intro w1 hx1
        obtain ⟨x1, hx1⟩ := hx1
        have hb1 := x1.prop
        rw [← hx1] at hb1
        clear hx1 x1
        obtain ⟨hc1, hf1⟩ := bcell hb1
        have hs1 := hb1.size
        try simp at hs1
        try have hz10 : w.heap.size < w1.heap.size := by omega
        try have hz11 : w.heap.size + 1 < w1.heap.size := by omega
        try have hz12 : w.heap.size + 1 + 1 < w1.heap.size := by omega
        try have hz13 : w.heap.size + 1 + 1 + 1 < w1.heap.size := by omega
        try have hz14 : w.heap.size + 1 + 1 + 1 + 1 < w1.heap.size := by omega
        try have hz15 : w.heap.size + 1 + 1 + 1 + 1 + 1 < w1.heap.size := by omega
        clear hc1 hf1
        have B1 := Lib.hid (BW.out.trans (hb1.mono hsr))
        clear hb1
        go_wp2_with fail
        refine (compareAttrs_any p q _).mono ?_
        rintro e w2 ⟨rfl, hb2⟩
        have B2 := Lib.hid (B1.out.trans (hb2.mono B1.out.size))
        clear hb2
        by_cases hx : attrL p q = 0
        · have HX := Lib.hid (HS.out.trans (if_neg (by simpa using hx)))
          have b0 : (attrL p q != 0) = false := by simpa using hx
          clear hx
          go_wp2_with fail
          go_roundw
          case rel => exact ⟨k + 1, by go_num, by omega, HX.out, B2.out⟩
          case measure => simp [intOf]; omega
        · have HX := Lib.hid (HS.out.trans (if_pos (by simpa using hx)))
          have b0 : (attrL p q != 0) = true := by simpa using hx
          clear hx
          go_wp2_with fail
          go_ret
          exact ⟨ret_int' HX.out.symm, B2.out⟩
      · have HX := Lib.hid (HE.out.trans (atsL_end (show k = min a.length b.length by omega)))
        try have d1 : decide (k < a.length) = false := by simp; omega
        try have d2 : decide (k < b.length) = false := by simp; omega
        go_wp2_with fail
        refine (compare_any _ _ _).mono ?_
        rintro e w2 ⟨rfl, hw⟩
        obtain rfl := hw
        go_wp2_with fail
        go_ret
        exact ⟨ret_int' HX.out.symm, BW.out⟩
  · have hab' : decide (b.length < a.length) = false := by simpa using hab
    go_enter Tryz.func135, Tryz.ntmps135
    go_wp2_with fail
    go_loopw [14] (fun i wr => ∃ k : Nat, i = .int .i64 k ∧ k ≤ n ∧ atsL a b = atsL (a.drop k) (b.drop k) ∧ Below w.heap.size w wr) (fun i _ => n - (intOf i).toNat)
    case atStart => exact ⟨0, rfl, Nat.zero_le _, rfl, Below.refl _ _⟩
    case round =>
      obtain ⟨k, rfl, hk, he, hbw⟩ := hrel
      have HE := Lib.hid he
      have BW := Lib.hid hbw
      have hsr := hbw.size
      clear he hbw
      by_cases hlt : k < n
      · have hka : k < a.length := by omega
        have hkb : k < b.length := by omega
        obtain ⟨ga, oa, rfl, hca, hga, hxa⟩ := attrs_at HA.out (by intro e; rw [e] at hka; simp at hka)
        obtain ⟨gb, ob, rfl, hcb, hgb, hxb⟩ := attrs_at HB.out (by intro e; rw [e] at hkb; simp at hkb)
        have HS := Lib.hid (HE.out.trans (atsL_drop hka hkb))
        obtain ⟨x1, x2⟩ := hxa k hka
        obtain ⟨y1, y2⟩ := hxb k hkb
        have c1 := (BW.out.cell (p := ⟨ga, oa + k * 2, none⟩) hga).trans x1
        have c2 := (BW.out.cell (p := ⟨ga, oa + k * 2 + 1, none⟩) hga).trans x2
        have c3 := (BW.out.cell (p := ⟨gb, ob + k * 2, none⟩) hgb).trans y1
        have c4 := (BW.out.cell (p := ⟨gb, ob + k * 2 + 1, none⟩) hgb).trans y2
        have na : ga < wr.heap.size := by omega
        have nb : gb < wr.heap.size := by omega
        clear hxa hxb x1 x2 y1 y2
        generalize a.getD k ([], []) = p at *
        generalize b.getD k ([], []) = q at *
        go_wp2_with fail
        refine wp_region_quiet_tail (fun w' => ∃ x : Lower _, w' = x.val) 9 (by kernel_rfl) (by kernel_rfl) ⟨⟨_, (Below.refl _ _).drew⟩, rfl⟩ ?_
        simp only [List.take_succ_cons, List.take_zero, List.drop_succ_cons, List.drop_zero]
        repeat (go_big_quiet_step (fail))
        refine wpQuiet_nil ?_
        intro w1 hx1
        obtain ⟨x1, hx1⟩ := hx1
        have hb1 := x1.prop
        rw [← hx1] at hb1
        clear hx1 x1
        obtain ⟨hc1, hf1⟩ := bcell hb1
        have hs1 := hb1.size
        try simp at hs1
        try have hz10 : w.heap.size < w1.heap.size := by omega
        try have hz11 : w.heap.size + 1 < w1.heap.size := by omega
        try have hz12 : w.heap.size + 1 + 1 < w1.heap.size := by omega
        try have hz13 : w.heap.size + 1 + 1 + 1 < w1.heap.size := by omega
        try have hz14 : w.heap.size + 1 + 1 + 1 + 1 < w1.heap.size := by omega
        try have hz15 : w.heap.size + 1 + 1 + 1 + 1 + 1 < w1.heap.size := by omega
        clear hc1 hf1
        have B1 := Lib.hid (BW.out.trans (hb1.mono hsr))
        clear hb1
        go_wp2_with fail
        refine (compareAttrs_any p q _).mono ?_
        rintro e w2 ⟨rfl, hb2⟩
        have B2 := Lib.hid (B1.out.trans (hb2.mono B1.out.size))
        clear hb2
        by_cases hx : attrL p q = 0
        · have HX := Lib.hid (HS.out.trans (if_neg (by simpa using hx)))
          have b0 : (attrL p q != 0) = false := by simpa using hx
          clear hx
          go_wp2_with fail
          go_roundw
          case rel => exact ⟨k + 1, by go_num, by omega, HX.out, B2.out⟩
          case measure => simp [intOf]; omega
        · have HX := Lib.hid (HS.out.trans (if_pos (by simpa using hx)))
          have b0 : (attrL p q != 0) = true := by simpa using hx
          clear hx
          go_wp2_with fail
          go_ret
          exact ⟨ret_int' HX.out.symm, B2.out⟩
      · have HX := Lib.hid (HE.out.trans (atsL_end (show k = min a.length b.length by omega)))
        try have d1 : decide (k < a.length) = false := by simp; omega
        try have d2 : decide (k < b.length) = false := by simp; omega
        go_wp2_with fail
        refine (compare_any _ _ _).mono ?_
        rintro e w2 ⟨rfl, hw⟩
        obtain rfl := hw
        go_wp2_with fail
        go_ret
        exact ⟨ret_int' HX.out.symm, BW.out⟩
end Go.Proofs.YtcgedpfolloinaaGreat

namespace Go.Proofs.YtcgedpfolloinaaGreat
open Go.RowKit

theorem head_kinds {h : Hd} (e : headErr h = 0) : (h.k = 0 ∧ h.n = 0 ∧ h.d = 0 ∧ h.x = []) ∨ (h.k = 1 ∧ h.x = [] ∧ h.l = [] ∧ h.ats = [] ∧ chk h.n h.d = 0) ∨ (h.k = 2 ∧ h.n = 0 ∧ h.d = 0 ∧ h.l = [] ∧ h.ats = []) := by
  unfold headErr at e
  by_cases hs : strayB h = true
  · rw [if_pos hs] at e; cases e
  · rw [if_neg hs] at e
    unfold strayB at hs
    by_cases h0 : h.k = 0
    · rw [if_pos h0] at hs
      simp at hs
      exact .inl ⟨h0, hs.1.1, hs.1.2, hs.2⟩
    · rw [if_neg h0] at hs
      by_cases h1 : h.k = 1
      · rw [if_pos h1] at hs
        rw [if_pos h1] at e
        simp at hs
        exact .inr (.inl ⟨h1, hs.1, hs.2.1, hs.2.2, e⟩)
      · rw [if_neg h1] at hs
        by_cases h2 : h.k = 2
        · rw [if_pos h2] at hs
          simp at hs
          exact .inr (.inr ⟨h2, hs.1.1, hs.1.2, hs.2.1, hs.2.2⟩)
        · rw [if_neg h2] at hs; simp at hs
theorem cmpM_self (a : Int) : cmpM a a = 0 := by unfold cmpM; rw [if_neg (by omega), if_neg (by omega)]
theorem cmpT_zero : (cmpT 0 0 0 0).1 = 0 := by decide +kernel
theorem headL_kind {h i : Hd} (e : h.k ≠ i.k) : headL h i = cmpM h.k i.k := by
  unfold headL headP5 firstNZ
  rw [if_pos]
  unfold cmpM
  rcases Int.lt_trichotomy h.k i.k with g | g | g
  · rw [if_pos g]; decide
  · exact absurd g e
  · rw [if_neg (by omega), if_pos g]; decide
theorem headL_num {h i : Hd} (e1 : h.k = 1) (e2 : i.k = 1) (h1 : headErr h = 0) (h2 : headErr i = 0) : headL h i = cmpM (h.n * i.d) (i.n * h.d) ∧ chk h.n h.d = 0 ∧ chk i.n i.d = 0 := by
  rcases head_kinds h1 with g | g | g
  · omega
  · rcases head_kinds h2 with f | f | f
    · omega
    · refine ⟨?_, g.2.2.2.2, f.2.2.2.2⟩
      unfold headL headP5
      rw [e1, e2, g.2.1, f.2.1, g.2.2.1, f.2.2.1, g.2.2.2.1, f.2.2.2.1, cmpM_self, strL_refl]
      unfold cmpT
      rw [if_pos g.2.2.2.2, if_pos f.2.2.2.2]
      simp [firstNZ, atsL]
      exact fun e => e.symm
    · omega
  · omega
theorem headL_text {h i : Hd} (e1 : h.k = 2) (e2 : i.k = 2) (h1 : headErr h = 0) (h2 : headErr i = 0) : headL h i = strL h.x i.x := by
  rcases head_kinds h1 with g | g | g
  · omega
  · omega
  · rcases head_kinds h2 with f | f | f
    · omega
    · omega
    · unfold headL headP5
      rw [e1, e2, g.2.1, f.2.1, g.2.2.1, f.2.2.1, g.2.2.2.1, f.2.2.2.1, g.2.2.2.2, f.2.2.2.2, cmpM_self, strL_refl, cmpT_zero]
      simp [firstNZ, atsL]
      exact fun e => e.symm
theorem headL_elem {h i : Hd} (e1 : h.k = 0) (e2 : i.k = 0) (h1 : headErr h = 0) (h2 : headErr i = 0) : headL h i = if strL h.l i.l ≠ 0 then strL h.l i.l else atsL h.ats i.ats := by
  rcases head_kinds h1 with g | g | g
  · rcases head_kinds h2 with f | f | f
    · unfold headL headP5
      rw [e1, e2, g.2.1, f.2.1, g.2.2.1, f.2.2.1, g.2.2.2, f.2.2.2, cmpM_self, strL_refl, cmpT_zero]
      by_cases a : strL h.l i.l = 0 <;> by_cases b : atsL h.ats i.ats = 0 <;> simp [firstNZ, a, b]
    · omega
    · omega
  · omega
  · omega

set_option maxRecDepth 100000 in
set_option maxHeartbeats 4000000 in
theorem horder_kind (h i : Hd) (aa ab : Option Addr) (ca cb : Nat) (w : World) (hk : h.k ≠ i.k) :
    Calls Tryz.prog 88 #[.agg #[.int .i64 h.k, .string ⟨h.l.toArray⟩, .slice aa h.ats.length ca, .int .i64 h.n, .int .i64 h.d, .string ⟨h.x.toArray⟩], .agg #[.int .i64 i.k, .string ⟨i.l.toArray⟩, .slice ab i.ats.length cb, .int .i64 i.n, .int .i64 i.d, .string ⟨i.x.toArray⟩]] w fun e w' => e = .returned (.int .i64 (headL h i)) ∧ Below w.heap.size w w' := by
  have bk : (h.k != i.k) = true := by simpa using hk
  have HV := Lib.hid (headL_kind hk)
  go_enter Tryz.func88, Tryz.ntmps88
  go_upto_region 1 with fail
  have k0 : ((w.alloc (.cells #[.int .i64 h.k, .string ⟨h.l.toArray⟩, .slice aa h.ats.length ca, .int .i64 h.n, .int .i64 h.d, .string ⟨h.x.toArray⟩] 27)).alloc (.cells #[.int .i64 i.k, .string ⟨i.l.toArray⟩, .slice ab i.ats.length cb, .int .i64 i.n, .int .i64 i.d, .string ⟨i.x.toArray⟩] 27)).heap[w.heap.size]? = some (.cells #[.int .i64 h.k, .string ⟨h.l.toArray⟩, .slice aa h.ats.length ca, .int .i64 h.n, .int .i64 h.d, .string ⟨h.x.toArray⟩] 27) := (Below.heap_alloc _ _ _ (by simp)).trans (World.alloc_heap_new w (.cells #[.int .i64 h.k, .string ⟨h.l.toArray⟩, .slice aa h.ats.length ca, .int .i64 h.n, .int .i64 h.d, .string ⟨h.x.toArray⟩] 27))
  have k1 : ((w.alloc (.cells #[.int .i64 h.k, .string ⟨h.l.toArray⟩, .slice aa h.ats.length ca, .int .i64 h.n, .int .i64 h.d, .string ⟨h.x.toArray⟩] 27)).alloc (.cells #[.int .i64 i.k, .string ⟨i.l.toArray⟩, .slice ab i.ats.length cb, .int .i64 i.n, .int .i64 i.d, .string ⟨i.x.toArray⟩] 27)).heap[w.heap.size + 1]? = some (.cells #[.int .i64 i.k, .string ⟨i.l.toArray⟩, .slice ab i.ats.length cb, .int .i64 i.n, .int .i64 i.d, .string ⟨i.x.toArray⟩] 27) := by
    have := World.alloc_heap_new (w.alloc (.cells #[.int .i64 h.k, .string ⟨h.l.toArray⟩, .slice aa h.ats.length ca, .int .i64 h.n, .int .i64 h.d, .string ⟨h.x.toArray⟩] 27)) (.cells #[.int .i64 i.k, .string ⟨i.l.toArray⟩, .slice ab i.ats.length cb, .int .i64 i.n, .int .i64 i.d, .string ⟨i.x.toArray⟩] 27)
    rw [show (w.alloc (.cells #[.int .i64 h.k, .string ⟨h.l.toArray⟩, .slice aa h.ats.length ca, .int .i64 h.n, .int .i64 h.d, .string ⟨h.x.toArray⟩] 27)).heap.size = w.heap.size + 1 by simp] at this
    exact this
  have BW : Below w.heap.size w ((w.alloc (.cells #[.int .i64 h.k, .string ⟨h.l.toArray⟩, .slice aa h.ats.length ca, .int .i64 h.n, .int .i64 h.d, .string ⟨h.x.toArray⟩] 27)).alloc (.cells #[.int .i64 i.k, .string ⟨i.l.toArray⟩, .slice ab i.ats.length cb, .int .i64 i.n, .int .i64 i.d, .string ⟨i.x.toArray⟩] 27)) := by ((repeat' (first | exact Below.refl _ _ | assumption | refine Below.setCell ?_ ?_ _ | refine bdrewN ?_ _ | refine Below.drew ?_ | refine Below.alloc ?_ ?_ _ | refine bbehind ?_ (by assumption) ?_)); all_goals first | (simp; done) | (simp; omega) | omega)
  have hs0 : w.heap.size + 2 ≤ ((w.alloc (.cells #[.int .i64 h.k, .string ⟨h.l.toArray⟩, .slice aa h.ats.length ca, .int .i64 h.n, .int .i64 h.d, .string ⟨h.x.toArray⟩] 27)).alloc (.cells #[.int .i64 i.k, .string ⟨i.l.toArray⟩, .slice ab i.ats.length cb, .int .i64 i.n, .int .i64 i.d, .string ⟨i.x.toArray⟩] 27)).heap.size := by simp
  generalize (w.alloc (.cells #[.int .i64 h.k, .string ⟨h.l.toArray⟩, .slice aa h.ats.length ca, .int .i64 h.n, .int .i64 h.d, .string ⟨h.x.toArray⟩] 27)).alloc (.cells #[.int .i64 i.k, .string ⟨i.l.toArray⟩, .slice ab i.ats.length cb, .int .i64 i.n, .int .i64 i.d, .string ⟨i.x.toArray⟩] 27) = W at *
  have d0 : W.cell? ⟨w.heap.size, 0, none⟩ = some (.int .i64 h.k) := cell_of_block k0 rfl
  have d1 : W.cell? ⟨w.heap.size, 1, none⟩ = some (.string ⟨h.l.toArray⟩) := cell_of_block k0 rfl
  have d2 : W.cell? ⟨w.heap.size, 2, none⟩ = some (.slice aa h.ats.length ca) := cell_of_block k0 rfl
  have d3 : W.cell? ⟨w.heap.size, 3, none⟩ = some (.int .i64 h.n) := cell_of_block k0 rfl
  have d4 : W.cell? ⟨w.heap.size, 4, none⟩ = some (.int .i64 h.d) := cell_of_block k0 rfl
  have d5 : W.cell? ⟨w.heap.size, 5, none⟩ = some (.string ⟨h.x.toArray⟩) := cell_of_block k0 rfl
  have f0 : W.cell? ⟨w.heap.size + 1, 0, none⟩ = some (.int .i64 i.k) := cell_of_block k1 rfl
  have f1 : W.cell? ⟨w.heap.size + 1, 1, none⟩ = some (.string ⟨i.l.toArray⟩) := cell_of_block k1 rfl
  have f2 : W.cell? ⟨w.heap.size + 1, 2, none⟩ = some (.slice ab i.ats.length cb) := cell_of_block k1 rfl
  have f3 : W.cell? ⟨w.heap.size + 1, 3, none⟩ = some (.int .i64 i.n) := cell_of_block k1 rfl
  have f4 : W.cell? ⟨w.heap.size + 1, 4, none⟩ = some (.int .i64 i.d) := cell_of_block k1 rfl
  have f5 : W.cell? ⟨w.heap.size + 1, 5, none⟩ = some (.string ⟨i.x.toArray⟩) := cell_of_block k1 rfl
  by_cases hlt : h.k < i.k
  · have bl : decide (h.k < i.k) = true := by simpa using hlt
    have HX := Lib.hid (HV.out.trans (if_pos hlt))
    go_wp2_with fail
    go_ret
    exact ⟨ret_int' HX.out.symm, BW⟩
  · have bl : decide (h.k < i.k) = false := by simpa using hlt
    have HX := Lib.hid (HV.out.trans ((if_neg hlt).trans (if_pos (by omega))))
    go_wp2_with fail
    go_ret
    exact ⟨ret_int' HX.out.symm, BW⟩

set_option maxRecDepth 100000 in
set_option maxHeartbeats 4000000 in
theorem horder_num (h i : Hd) (aa ab : Option Addr) (ca cb : Nat) (w : World) (e1 : h.k = 1) (e2 : i.k = 1) (h1 : headErr h = 0) (h2 : headErr i = 0) :
    Calls Tryz.prog 88 #[.agg #[.int .i64 h.k, .string ⟨h.l.toArray⟩, .slice aa h.ats.length ca, .int .i64 h.n, .int .i64 h.d, .string ⟨h.x.toArray⟩], .agg #[.int .i64 i.k, .string ⟨i.l.toArray⟩, .slice ab i.ats.length cb, .int .i64 i.n, .int .i64 i.d, .string ⟨i.x.toArray⟩]] w fun e w' => e = .returned (.int .i64 (headL h i)) ∧ Below w.heap.size w w' := by
  obtain ⟨hv, c1, c2⟩ := headL_num e1 e2 h1 h2
  have HV := Lib.hid hv
  have bk : (h.k != i.k) = false := by simp; omega
  have bk1 : (h.k == 1) = true := by simpa using e1
  have L1 := Lib.hid (fun w => less_any h.n h.d i.n i.d w (fit_of_chk c1) (fit_of_chk c2))
  have L2 := Lib.hid (fun w => less_any i.n i.d h.n h.d w (fit_of_chk c2) (fit_of_chk c1))
  unfold lessB at L1 L2
  clear hv c1 c2 h1 h2 e1 e2
  go_enter Tryz.func88, Tryz.ntmps88
  go_upto_region 1 with fail
  have k0 : ((w.alloc (.cells #[.int .i64 h.k, .string ⟨h.l.toArray⟩, .slice aa h.ats.length ca, .int .i64 h.n, .int .i64 h.d, .string ⟨h.x.toArray⟩] 27)).alloc (.cells #[.int .i64 i.k, .string ⟨i.l.toArray⟩, .slice ab i.ats.length cb, .int .i64 i.n, .int .i64 i.d, .string ⟨i.x.toArray⟩] 27)).heap[w.heap.size]? = some (.cells #[.int .i64 h.k, .string ⟨h.l.toArray⟩, .slice aa h.ats.length ca, .int .i64 h.n, .int .i64 h.d, .string ⟨h.x.toArray⟩] 27) := (Below.heap_alloc _ _ _ (by simp)).trans (World.alloc_heap_new w (.cells #[.int .i64 h.k, .string ⟨h.l.toArray⟩, .slice aa h.ats.length ca, .int .i64 h.n, .int .i64 h.d, .string ⟨h.x.toArray⟩] 27))
  have k1 : ((w.alloc (.cells #[.int .i64 h.k, .string ⟨h.l.toArray⟩, .slice aa h.ats.length ca, .int .i64 h.n, .int .i64 h.d, .string ⟨h.x.toArray⟩] 27)).alloc (.cells #[.int .i64 i.k, .string ⟨i.l.toArray⟩, .slice ab i.ats.length cb, .int .i64 i.n, .int .i64 i.d, .string ⟨i.x.toArray⟩] 27)).heap[w.heap.size + 1]? = some (.cells #[.int .i64 i.k, .string ⟨i.l.toArray⟩, .slice ab i.ats.length cb, .int .i64 i.n, .int .i64 i.d, .string ⟨i.x.toArray⟩] 27) := by
    have := World.alloc_heap_new (w.alloc (.cells #[.int .i64 h.k, .string ⟨h.l.toArray⟩, .slice aa h.ats.length ca, .int .i64 h.n, .int .i64 h.d, .string ⟨h.x.toArray⟩] 27)) (.cells #[.int .i64 i.k, .string ⟨i.l.toArray⟩, .slice ab i.ats.length cb, .int .i64 i.n, .int .i64 i.d, .string ⟨i.x.toArray⟩] 27)
    rw [show (w.alloc (.cells #[.int .i64 h.k, .string ⟨h.l.toArray⟩, .slice aa h.ats.length ca, .int .i64 h.n, .int .i64 h.d, .string ⟨h.x.toArray⟩] 27)).heap.size = w.heap.size + 1 by simp] at this
    exact this
  have BW : Below w.heap.size w ((w.alloc (.cells #[.int .i64 h.k, .string ⟨h.l.toArray⟩, .slice aa h.ats.length ca, .int .i64 h.n, .int .i64 h.d, .string ⟨h.x.toArray⟩] 27)).alloc (.cells #[.int .i64 i.k, .string ⟨i.l.toArray⟩, .slice ab i.ats.length cb, .int .i64 i.n, .int .i64 i.d, .string ⟨i.x.toArray⟩] 27)) := by ((repeat' (first | exact Below.refl _ _ | assumption | refine Below.setCell ?_ ?_ _ | refine bdrewN ?_ _ | refine Below.drew ?_ | refine Below.alloc ?_ ?_ _ | refine bbehind ?_ (by assumption) ?_)); all_goals first | (simp; done) | (simp; omega) | omega)
  have hs0 : w.heap.size + 2 ≤ ((w.alloc (.cells #[.int .i64 h.k, .string ⟨h.l.toArray⟩, .slice aa h.ats.length ca, .int .i64 h.n, .int .i64 h.d, .string ⟨h.x.toArray⟩] 27)).alloc (.cells #[.int .i64 i.k, .string ⟨i.l.toArray⟩, .slice ab i.ats.length cb, .int .i64 i.n, .int .i64 i.d, .string ⟨i.x.toArray⟩] 27)).heap.size := by simp
  generalize (w.alloc (.cells #[.int .i64 h.k, .string ⟨h.l.toArray⟩, .slice aa h.ats.length ca, .int .i64 h.n, .int .i64 h.d, .string ⟨h.x.toArray⟩] 27)).alloc (.cells #[.int .i64 i.k, .string ⟨i.l.toArray⟩, .slice ab i.ats.length cb, .int .i64 i.n, .int .i64 i.d, .string ⟨i.x.toArray⟩] 27) = W at *
  have d0 : W.cell? ⟨w.heap.size, 0, none⟩ = some (.int .i64 h.k) := cell_of_block k0 rfl
  have d1 : W.cell? ⟨w.heap.size, 1, none⟩ = some (.string ⟨h.l.toArray⟩) := cell_of_block k0 rfl
  have d2 : W.cell? ⟨w.heap.size, 2, none⟩ = some (.slice aa h.ats.length ca) := cell_of_block k0 rfl
  have d3 : W.cell? ⟨w.heap.size, 3, none⟩ = some (.int .i64 h.n) := cell_of_block k0 rfl
  have d4 : W.cell? ⟨w.heap.size, 4, none⟩ = some (.int .i64 h.d) := cell_of_block k0 rfl
  have d5 : W.cell? ⟨w.heap.size, 5, none⟩ = some (.string ⟨h.x.toArray⟩) := cell_of_block k0 rfl
  have f0 : W.cell? ⟨w.heap.size + 1, 0, none⟩ = some (.int .i64 i.k) := cell_of_block k1 rfl
  have f1 : W.cell? ⟨w.heap.size + 1, 1, none⟩ = some (.string ⟨i.l.toArray⟩) := cell_of_block k1 rfl
  have f2 : W.cell? ⟨w.heap.size + 1, 2, none⟩ = some (.slice ab i.ats.length cb) := cell_of_block k1 rfl
  have f3 : W.cell? ⟨w.heap.size + 1, 3, none⟩ = some (.int .i64 i.n) := cell_of_block k1 rfl
  have f4 : W.cell? ⟨w.heap.size + 1, 4, none⟩ = some (.int .i64 i.d) := cell_of_block k1 rfl
  have f5 : W.cell? ⟨w.heap.size + 1, 5, none⟩ = some (.string ⟨i.x.toArray⟩) := cell_of_block k1 rfl
  have K0 := Lib.hid k0
  have K1 := Lib.hid k1
  clear k0 k1
  go_wp2_with fail
  refine (L1.out _).mono ?_
  rintro e w1 ⟨rfl, hb1⟩
  have hs1 := hb1.size
  have B1 := BW.trans (hb1.mono BW.size)
  have k0 := (hb1.block _ (by omega)).trans K0.out
  have k1 := (hb1.block _ (by omega)).trans K1.out
  have u0 : w1.cell? ⟨w.heap.size, 0, none⟩ = some (.int .i64 h.k) := cell_of_block k0 rfl
  have u1 : w1.cell? ⟨w.heap.size, 1, none⟩ = some (.string ⟨h.l.toArray⟩) := cell_of_block k0 rfl
  have u2 : w1.cell? ⟨w.heap.size, 2, none⟩ = some (.slice aa h.ats.length ca) := cell_of_block k0 rfl
  have u3 : w1.cell? ⟨w.heap.size, 3, none⟩ = some (.int .i64 h.n) := cell_of_block k0 rfl
  have u4 : w1.cell? ⟨w.heap.size, 4, none⟩ = some (.int .i64 h.d) := cell_of_block k0 rfl
  have u5 : w1.cell? ⟨w.heap.size, 5, none⟩ = some (.string ⟨h.x.toArray⟩) := cell_of_block k0 rfl
  have v0 : w1.cell? ⟨w.heap.size + 1, 0, none⟩ = some (.int .i64 i.k) := cell_of_block k1 rfl
  have v1 : w1.cell? ⟨w.heap.size + 1, 1, none⟩ = some (.string ⟨i.l.toArray⟩) := cell_of_block k1 rfl
  have v2 : w1.cell? ⟨w.heap.size + 1, 2, none⟩ = some (.slice ab i.ats.length cb) := cell_of_block k1 rfl
  have v3 : w1.cell? ⟨w.heap.size + 1, 3, none⟩ = some (.int .i64 i.n) := cell_of_block k1 rfl
  have v4 : w1.cell? ⟨w.heap.size + 1, 4, none⟩ = some (.int .i64 i.d) := cell_of_block k1 rfl
  have v5 : w1.cell? ⟨w.heap.size + 1, 5, none⟩ = some (.string ⟨i.x.toArray⟩) := cell_of_block k1 rfl
  clear k0 k1 hb1
  by_cases hlt : h.n * i.d < i.n * h.d
  · have bl : decide (h.n * i.d < i.n * h.d) = true := by simpa using hlt
    have HX := Lib.hid (HV.out.trans (if_pos hlt))
    clear hlt
    go_wp2_with fail
    go_ret
    exact ⟨ret_int' HX.out.symm, B1⟩
  · have bl : decide (h.n * i.d < i.n * h.d) = false := by simpa using hlt
    have HV2 := Lib.hid (HV.out.trans (if_neg hlt))
    clear hlt
    go_wp2_with fail
    refine (L2.out _).mono ?_
    rintro e w2 ⟨rfl, hb2⟩
    have B2 := B1.trans (hb2.mono B1.size)
    clear hb2
    by_cases hgt : i.n * h.d < h.n * i.d
    · have bg : decide (i.n * h.d < h.n * i.d) = true := by simpa using hgt
      have HX := Lib.hid (HV2.out.trans (if_pos hgt))
      clear hgt
      go_wp2_with fail
      go_ret
      exact ⟨ret_int' HX.out.symm, B2⟩
    · have bg : decide (i.n * h.d < h.n * i.d) = false := by simpa using hgt
      have HX := Lib.hid (HV2.out.trans (if_neg hgt))
      clear hgt
      go_wp2_with fail
      go_ret
      exact ⟨ret_int' HX.out.symm, B2⟩

set_option maxRecDepth 100000 in
set_option maxHeartbeats 4000000 in
theorem horder_text (h i : Hd) (aa ab : Option Addr) (ca cb : Nat) (w : World) (e1 : h.k = 2) (e2 : i.k = 2) (h1 : headErr h = 0) (h2 : headErr i = 0) :
    Calls Tryz.prog 88 #[.agg #[.int .i64 h.k, .string ⟨h.l.toArray⟩, .slice aa h.ats.length ca, .int .i64 h.n, .int .i64 h.d, .string ⟨h.x.toArray⟩], .agg #[.int .i64 i.k, .string ⟨i.l.toArray⟩, .slice ab i.ats.length cb, .int .i64 i.n, .int .i64 i.d, .string ⟨i.x.toArray⟩]] w fun e w' => e = .returned (.int .i64 (headL h i)) ∧ Below w.heap.size w w' := by
  rw [headL_text e1 e2 h1 h2]
  have bk : (h.k != i.k) = false := by simp; omega
  have bk1 : (h.k == 1) = false := by rw [e1]; rfl
  have bk2 : (h.k == 2) = true := by rw [e1]; rfl
  clear h1 h2 e1 e2
  go_enter Tryz.func88, Tryz.ntmps88
  go_upto_region 1 with fail
  have k0 : ((w.alloc (.cells #[.int .i64 h.k, .string ⟨h.l.toArray⟩, .slice aa h.ats.length ca, .int .i64 h.n, .int .i64 h.d, .string ⟨h.x.toArray⟩] 27)).alloc (.cells #[.int .i64 i.k, .string ⟨i.l.toArray⟩, .slice ab i.ats.length cb, .int .i64 i.n, .int .i64 i.d, .string ⟨i.x.toArray⟩] 27)).heap[w.heap.size]? = some (.cells #[.int .i64 h.k, .string ⟨h.l.toArray⟩, .slice aa h.ats.length ca, .int .i64 h.n, .int .i64 h.d, .string ⟨h.x.toArray⟩] 27) := (Below.heap_alloc _ _ _ (by simp)).trans (World.alloc_heap_new w (.cells #[.int .i64 h.k, .string ⟨h.l.toArray⟩, .slice aa h.ats.length ca, .int .i64 h.n, .int .i64 h.d, .string ⟨h.x.toArray⟩] 27))
  have k1 : ((w.alloc (.cells #[.int .i64 h.k, .string ⟨h.l.toArray⟩, .slice aa h.ats.length ca, .int .i64 h.n, .int .i64 h.d, .string ⟨h.x.toArray⟩] 27)).alloc (.cells #[.int .i64 i.k, .string ⟨i.l.toArray⟩, .slice ab i.ats.length cb, .int .i64 i.n, .int .i64 i.d, .string ⟨i.x.toArray⟩] 27)).heap[w.heap.size + 1]? = some (.cells #[.int .i64 i.k, .string ⟨i.l.toArray⟩, .slice ab i.ats.length cb, .int .i64 i.n, .int .i64 i.d, .string ⟨i.x.toArray⟩] 27) := by
    have := World.alloc_heap_new (w.alloc (.cells #[.int .i64 h.k, .string ⟨h.l.toArray⟩, .slice aa h.ats.length ca, .int .i64 h.n, .int .i64 h.d, .string ⟨h.x.toArray⟩] 27)) (.cells #[.int .i64 i.k, .string ⟨i.l.toArray⟩, .slice ab i.ats.length cb, .int .i64 i.n, .int .i64 i.d, .string ⟨i.x.toArray⟩] 27)
    rw [show (w.alloc (.cells #[.int .i64 h.k, .string ⟨h.l.toArray⟩, .slice aa h.ats.length ca, .int .i64 h.n, .int .i64 h.d, .string ⟨h.x.toArray⟩] 27)).heap.size = w.heap.size + 1 by simp] at this
    exact this
  have BW : Below w.heap.size w ((w.alloc (.cells #[.int .i64 h.k, .string ⟨h.l.toArray⟩, .slice aa h.ats.length ca, .int .i64 h.n, .int .i64 h.d, .string ⟨h.x.toArray⟩] 27)).alloc (.cells #[.int .i64 i.k, .string ⟨i.l.toArray⟩, .slice ab i.ats.length cb, .int .i64 i.n, .int .i64 i.d, .string ⟨i.x.toArray⟩] 27)) := by ((repeat' (first | exact Below.refl _ _ | assumption | refine Below.setCell ?_ ?_ _ | refine bdrewN ?_ _ | refine Below.drew ?_ | refine Below.alloc ?_ ?_ _ | refine bbehind ?_ (by assumption) ?_)); all_goals first | (simp; done) | (simp; omega) | omega)
  have hs0 : w.heap.size + 2 ≤ ((w.alloc (.cells #[.int .i64 h.k, .string ⟨h.l.toArray⟩, .slice aa h.ats.length ca, .int .i64 h.n, .int .i64 h.d, .string ⟨h.x.toArray⟩] 27)).alloc (.cells #[.int .i64 i.k, .string ⟨i.l.toArray⟩, .slice ab i.ats.length cb, .int .i64 i.n, .int .i64 i.d, .string ⟨i.x.toArray⟩] 27)).heap.size := by simp
  generalize (w.alloc (.cells #[.int .i64 h.k, .string ⟨h.l.toArray⟩, .slice aa h.ats.length ca, .int .i64 h.n, .int .i64 h.d, .string ⟨h.x.toArray⟩] 27)).alloc (.cells #[.int .i64 i.k, .string ⟨i.l.toArray⟩, .slice ab i.ats.length cb, .int .i64 i.n, .int .i64 i.d, .string ⟨i.x.toArray⟩] 27) = W at *
  have d0 : W.cell? ⟨w.heap.size, 0, none⟩ = some (.int .i64 h.k) := cell_of_block k0 rfl
  have d1 : W.cell? ⟨w.heap.size, 1, none⟩ = some (.string ⟨h.l.toArray⟩) := cell_of_block k0 rfl
  have d2 : W.cell? ⟨w.heap.size, 2, none⟩ = some (.slice aa h.ats.length ca) := cell_of_block k0 rfl
  have d3 : W.cell? ⟨w.heap.size, 3, none⟩ = some (.int .i64 h.n) := cell_of_block k0 rfl
  have d4 : W.cell? ⟨w.heap.size, 4, none⟩ = some (.int .i64 h.d) := cell_of_block k0 rfl
  have d5 : W.cell? ⟨w.heap.size, 5, none⟩ = some (.string ⟨h.x.toArray⟩) := cell_of_block k0 rfl
  have f0 : W.cell? ⟨w.heap.size + 1, 0, none⟩ = some (.int .i64 i.k) := cell_of_block k1 rfl
  have f1 : W.cell? ⟨w.heap.size + 1, 1, none⟩ = some (.string ⟨i.l.toArray⟩) := cell_of_block k1 rfl
  have f2 : W.cell? ⟨w.heap.size + 1, 2, none⟩ = some (.slice ab i.ats.length cb) := cell_of_block k1 rfl
  have f3 : W.cell? ⟨w.heap.size + 1, 3, none⟩ = some (.int .i64 i.n) := cell_of_block k1 rfl
  have f4 : W.cell? ⟨w.heap.size + 1, 4, none⟩ = some (.int .i64 i.d) := cell_of_block k1 rfl
  have f5 : W.cell? ⟨w.heap.size + 1, 5, none⟩ = some (.string ⟨i.x.toArray⟩) := cell_of_block k1 rfl
  clear k0 k1
  go_wp2_with fail
  refine (qorder_any _ _ _).mono ?_
  rintro e w1 ⟨rfl, hw⟩
  obtain rfl := hw
  go_wp2_with fail
  go_ret
  exact ⟨rfl, BW⟩

set_option maxRecDepth 100000 in
set_option maxHeartbeats 4000000 in
theorem horder_elem (h i : Hd) (aa ab : Option Addr) (ca cb : Nat) (w : World) (ha : AttrsLie w (.slice aa h.ats.length ca) h.ats) (hb : AttrsLie w (.slice ab i.ats.length cb) i.ats) (e1 : h.k = 0) (e2 : i.k = 0) (h1 : headErr h = 0) (h2 : headErr i = 0) :
    Calls Tryz.prog 88 #[.agg #[.int .i64 h.k, .string ⟨h.l.toArray⟩, .slice aa h.ats.length ca, .int .i64 h.n, .int .i64 h.d, .string ⟨h.x.toArray⟩], .agg #[.int .i64 i.k, .string ⟨i.l.toArray⟩, .slice ab i.ats.length cb, .int .i64 i.n, .int .i64 i.d, .string ⟨i.x.toArray⟩]] w fun e w' => e = .returned (.int .i64 (headL h i)) ∧ Below w.heap.size w w' := by
  have HV := Lib.hid (headL_elem e1 e2 h1 h2)
  have bk : (h.k != i.k) = false := by simp; omega
  have bk1 : (h.k == 1) = false := by rw [e1]; rfl
  have bk2 : (h.k == 2) = false := by rw [e1]; rfl
  have HA := Lib.hid ha
  have HB := Lib.hid hb
  have la := attrs_len ha
  have lb := attrs_len hb
  clear h1 h2 ha hb e1 e2
  go_enter Tryz.func88, Tryz.ntmps88
  go_upto_region 1 with fail
  have k0 : ((w.alloc (.cells #[.int .i64 h.k, .string ⟨h.l.toArray⟩, .slice aa h.ats.length ca, .int .i64 h.n, .int .i64 h.d, .string ⟨h.x.toArray⟩] 27)).alloc (.cells #[.int .i64 i.k, .string ⟨i.l.toArray⟩, .slice ab i.ats.length cb, .int .i64 i.n, .int .i64 i.d, .string ⟨i.x.toArray⟩] 27)).heap[w.heap.size]? = some (.cells #[.int .i64 h.k, .string ⟨h.l.toArray⟩, .slice aa h.ats.length ca, .int .i64 h.n, .int .i64 h.d, .string ⟨h.x.toArray⟩] 27) := (Below.heap_alloc _ _ _ (by simp)).trans (World.alloc_heap_new w (.cells #[.int .i64 h.k, .string ⟨h.l.toArray⟩, .slice aa h.ats.length ca, .int .i64 h.n, .int .i64 h.d, .string ⟨h.x.toArray⟩] 27))
  have k1 : ((w.alloc (.cells #[.int .i64 h.k, .string ⟨h.l.toArray⟩, .slice aa h.ats.length ca, .int .i64 h.n, .int .i64 h.d, .string ⟨h.x.toArray⟩] 27)).alloc (.cells #[.int .i64 i.k, .string ⟨i.l.toArray⟩, .slice ab i.ats.length cb, .int .i64 i.n, .int .i64 i.d, .string ⟨i.x.toArray⟩] 27)).heap[w.heap.size + 1]? = some (.cells #[.int .i64 i.k, .string ⟨i.l.toArray⟩, .slice ab i.ats.length cb, .int .i64 i.n, .int .i64 i.d, .string ⟨i.x.toArray⟩] 27) := by
    have := World.alloc_heap_new (w.alloc (.cells #[.int .i64 h.k, .string ⟨h.l.toArray⟩, .slice aa h.ats.length ca, .int .i64 h.n, .int .i64 h.d, .string ⟨h.x.toArray⟩] 27)) (.cells #[.int .i64 i.k, .string ⟨i.l.toArray⟩, .slice ab i.ats.length cb, .int .i64 i.n, .int .i64 i.d, .string ⟨i.x.toArray⟩] 27)
    rw [show (w.alloc (.cells #[.int .i64 h.k, .string ⟨h.l.toArray⟩, .slice aa h.ats.length ca, .int .i64 h.n, .int .i64 h.d, .string ⟨h.x.toArray⟩] 27)).heap.size = w.heap.size + 1 by simp] at this
    exact this
  have BW : Below w.heap.size w ((w.alloc (.cells #[.int .i64 h.k, .string ⟨h.l.toArray⟩, .slice aa h.ats.length ca, .int .i64 h.n, .int .i64 h.d, .string ⟨h.x.toArray⟩] 27)).alloc (.cells #[.int .i64 i.k, .string ⟨i.l.toArray⟩, .slice ab i.ats.length cb, .int .i64 i.n, .int .i64 i.d, .string ⟨i.x.toArray⟩] 27)) := by ((repeat' (first | exact Below.refl _ _ | assumption | refine Below.setCell ?_ ?_ _ | refine bdrewN ?_ _ | refine Below.drew ?_ | refine Below.alloc ?_ ?_ _ | refine bbehind ?_ (by assumption) ?_)); all_goals first | (simp; done) | (simp; omega) | omega)
  have hs0 : w.heap.size + 2 ≤ ((w.alloc (.cells #[.int .i64 h.k, .string ⟨h.l.toArray⟩, .slice aa h.ats.length ca, .int .i64 h.n, .int .i64 h.d, .string ⟨h.x.toArray⟩] 27)).alloc (.cells #[.int .i64 i.k, .string ⟨i.l.toArray⟩, .slice ab i.ats.length cb, .int .i64 i.n, .int .i64 i.d, .string ⟨i.x.toArray⟩] 27)).heap.size := by simp
  generalize (w.alloc (.cells #[.int .i64 h.k, .string ⟨h.l.toArray⟩, .slice aa h.ats.length ca, .int .i64 h.n, .int .i64 h.d, .string ⟨h.x.toArray⟩] 27)).alloc (.cells #[.int .i64 i.k, .string ⟨i.l.toArray⟩, .slice ab i.ats.length cb, .int .i64 i.n, .int .i64 i.d, .string ⟨i.x.toArray⟩] 27) = W at *
  have d0 : W.cell? ⟨w.heap.size, 0, none⟩ = some (.int .i64 h.k) := cell_of_block k0 rfl
  have d1 : W.cell? ⟨w.heap.size, 1, none⟩ = some (.string ⟨h.l.toArray⟩) := cell_of_block k0 rfl
  have d2 : W.cell? ⟨w.heap.size, 2, none⟩ = some (.slice aa h.ats.length ca) := cell_of_block k0 rfl
  have d3 : W.cell? ⟨w.heap.size, 3, none⟩ = some (.int .i64 h.n) := cell_of_block k0 rfl
  have d4 : W.cell? ⟨w.heap.size, 4, none⟩ = some (.int .i64 h.d) := cell_of_block k0 rfl
  have d5 : W.cell? ⟨w.heap.size, 5, none⟩ = some (.string ⟨h.x.toArray⟩) := cell_of_block k0 rfl
  have f0 : W.cell? ⟨w.heap.size + 1, 0, none⟩ = some (.int .i64 i.k) := cell_of_block k1 rfl
  have f1 : W.cell? ⟨w.heap.size + 1, 1, none⟩ = some (.string ⟨i.l.toArray⟩) := cell_of_block k1 rfl
  have f2 : W.cell? ⟨w.heap.size + 1, 2, none⟩ = some (.slice ab i.ats.length cb) := cell_of_block k1 rfl
  have f3 : W.cell? ⟨w.heap.size + 1, 3, none⟩ = some (.int .i64 i.n) := cell_of_block k1 rfl
  have f4 : W.cell? ⟨w.heap.size + 1, 4, none⟩ = some (.int .i64 i.d) := cell_of_block k1 rfl
  have f5 : W.cell? ⟨w.heap.size + 1, 5, none⟩ = some (.string ⟨i.x.toArray⟩) := cell_of_block k1 rfl
  have K0 := Lib.hid k0
  have K1 := Lib.hid k1
  clear k0 k1
  go_wp2_with fail
  refine (qorder_any _ _ _).mono ?_
  rintro e w1 ⟨rfl, hw⟩
  obtain rfl := hw
  by_cases hl : strL h.l i.l = 0
  rotate_left
  · have b0 : (strL h.l i.l != 0) = true := by simpa using hl
    have HX := Lib.hid (HV.out.trans (if_pos hl))
    go_wp2_with fail
    go_ret
    exact ⟨ret_int' HX.out.symm, BW⟩
  have b0 : (strL h.l i.l != 0) = false := by simpa using hl
  have HV2 := Lib.hid (HV.out.trans (if_neg (by simpa using hl)))
  clear hl
  go_wp2_with fail
  go_loopw [6] (fun jv wr => ∃ j : Nat, jv = .int .i64 j ∧ j ≤ min h.ats.length i.ats.length ∧ headL h i = atsL (h.ats.drop j) (i.ats.drop j) ∧ wr.heap[w.heap.size]? = some (.cells #[.int .i64 h.k, .string ⟨h.l.toArray⟩, .slice aa h.ats.length ca, .int .i64 h.n, .int .i64 h.d, .string ⟨h.x.toArray⟩] 27) ∧ wr.heap[w.heap.size + 1]? = some (.cells #[.int .i64 i.k, .string ⟨i.l.toArray⟩, .slice ab i.ats.length cb, .int .i64 i.n, .int .i64 i.d, .string ⟨i.x.toArray⟩] 27) ∧ Below w.heap.size w wr) (fun jv _ => min h.ats.length i.ats.length - (intOf jv).toNat)
  case atStart => exact ⟨0, rfl, Nat.zero_le _, HV2.out, K0.out, K1.out, BW⟩
  case round =>
    obtain ⟨j, rfl, hj, he, hk0, hk1, hbw⟩ := hrel
    have HE := Lib.hid he
    have BR := Lib.hid hbw
    have KR0 := Lib.hid hk0
    have KR1 := Lib.hid hk1
    have hsr : w.heap.size + 1 < wr.heap.size := (Array.getElem?_eq_some_iff.1 hk1).1
    have g2 : wr.cell? ⟨w.heap.size, 2, none⟩ = some (.slice aa h.ats.length ca) := cell_of_block hk0 rfl
    have m2 : wr.cell? ⟨w.heap.size + 1, 2, none⟩ = some (.slice ab i.ats.length cb) := cell_of_block hk1 rfl
    have nr : w.heap.size < wr.heap.size := by omega
    clear he hk0 hk1 d0 d1 d2 d3 d4 d5 f0 f1 f2 f3 f4 f5
    by_cases hlt : j < min h.ats.length i.ats.length
    · have hka : j < h.ats.length := by omega
      have hkb : j < i.ats.length := by omega
      obtain ⟨ga, oa, rfl, hca, hga, hxa⟩ := attrs_at HA.out (by intro e; rw [e] at hka; simp at hka)
      obtain ⟨gb, ob, rfl, hcb, hgb, hxb⟩ := attrs_at HB.out (by intro e; rw [e] at hkb; simp at hkb)
      have HS := Lib.hid (HE.out.trans (atsL_drop hka hkb))
      obtain ⟨x1, x2⟩ := hxa j hka
      obtain ⟨y1, y2⟩ := hxb j hkb
      have c1 := (hbw.cell (p := ⟨ga, oa + j * 2, none⟩) hga).trans x1
      have c2 := (hbw.cell (p := ⟨ga, oa + j * 2 + 1, none⟩) hga).trans x2
      have c3 := (hbw.cell (p := ⟨gb, ob + j * 2, none⟩) hgb).trans y1
      have c4 := (hbw.cell (p := ⟨gb, ob + j * 2 + 1, none⟩) hgb).trans y2
      have na : ga < wr.heap.size := by omega
      have nb : gb < wr.heap.size := by omega
      clear hxa hxb x1 x2 y1 y2 hbw
      generalize h.ats.getD j ([], []) = p at *
      generalize i.ats.getD j ([], []) = q at *
      obtain ⟨p1, p2⟩ := p
      obtain ⟨q1, q2⟩ := q
      simp only at c1 c2 c3 c4
      unfold attrL at HS
      simp only at HS
      go_wp2_with fail
      refine wp_region_quiet_tail (fun w' => ∃ x : Lower _, w' = x.val) 12 (by kernel_rfl) (by kernel_rfl) ⟨⟨_, (Below.refl _ _).drew⟩, rfl⟩ ?_
      simp only [List.take_succ_cons, List.take_zero, List.drop_succ_cons, List.drop_zero]
      repeat (go_big_quiet_step (fail))
      refine wpQuiet_nil ?_
      intro w1 hx1
      obtain ⟨x1, hx1⟩ := hx1
      have hb1 := x1.prop
      rw [← hx1] at hb1
      clear hx1 x1
      obtain ⟨hc1, hf1⟩ := bcell hb1
      have hs1 := hb1.size
      try simp at hs1
      try have hz10 : w.heap.size < w1.heap.size := by omega
      try have hz11 : w.heap.size + 1 < w1.heap.size := by omega
      try have hz12 : w.heap.size + 1 + 1 < w1.heap.size := by omega
      try have hz13 : w.heap.size + 1 + 1 + 1 < w1.heap.size := by omega
      try have hz14 : w.heap.size + 1 + 1 + 1 + 1 < w1.heap.size := by omega
      try have hz15 : w.heap.size + 1 + 1 + 1 + 1 + 1 < w1.heap.size := by omega
      have c2' := (hc1 _ _ na).trans c2
      have c4' := (hc1 _ _ nb).trans c4
      have g2' := (hc1 _ _ nr).trans g2
      have m2' := (hc1 _ _ hsr).trans m2
      have B1 := Lib.hid (BR.out.trans (hb1.mono BR.out.size))
      have KP0 := Lib.hid ((hb1.block _ nr).trans KR0.out)
      have KP1 := Lib.hid ((hb1.block _ hsr).trans KR1.out)
      have na1 : ga < w1.heap.size := by omega
      have nb1 : gb < w1.heap.size := by omega
      have nr1 : w.heap.size < w1.heap.size := by omega
      have ns1 : w.heap.size + 1 < w1.heap.size := by omega
      clear hc1 hf1 hb1 c1 c2 c3 c4 g2 m2
      go_wp2_with fail
      refine (qorder_any p1 q1 _).mono ?_
      rintro e w2 ⟨rfl, hw⟩
      obtain rfl := hw
      by_cases hx : strL p1 q1 = 0
      rotate_left
      · have HX := Lib.hid (HS.out.trans (by rw [if_pos (by rw [if_pos hx]; exact hx), if_pos hx]))
        have b1 : (strL p1 q1 != 0) = true := by simpa using hx
        clear hx
        go_wp2_with fail
        go_ret
        exact ⟨ret_int' HX.out.symm, B1.out⟩
      have b1 : (strL p1 q1 != 0) = false := by simpa using hx
      have HS2 := Lib.hid (HS.out.trans (show _ = if strL p2 q2 ≠ 0 then strL p2 q2 else atsL (h.ats.drop (j + 1)) (i.ats.drop (j + 1)) by simp [hx]))
      clear hx HS
      go_wp2_with fail
      refine wp_region_quiet_tail (fun w' => ∃ x : Lower _, w' = x.val) 12 (by kernel_rfl) (by kernel_rfl) ⟨⟨_, (Below.refl _ _).drew⟩, rfl⟩ ?_
      simp only [List.take_succ_cons, List.take_zero, List.drop_succ_cons, List.drop_zero]
      repeat (go_big_quiet_step (fail))
      refine wpQuiet_nil ?_
      intro w2 hx2
      obtain ⟨x2, hx2⟩ := hx2
      have hb2 := x2.prop
      rw [← hx2] at hb2
      clear hx2 x2
      obtain ⟨hc2, hf2⟩ := bcell hb2
      have hs2 := hb2.size
      try simp at hs2
      try have hz20 : w.heap.size < w2.heap.size := by omega
      try have hz21 : w.heap.size + 1 < w2.heap.size := by omega
      try have hz22 : w.heap.size + 1 + 1 < w2.heap.size := by omega
      try have hz23 : w.heap.size + 1 + 1 + 1 < w2.heap.size := by omega
      try have hz24 : w.heap.size + 1 + 1 + 1 + 1 < w2.heap.size := by omega
      try have hz25 : w.heap.size + 1 + 1 + 1 + 1 + 1 < w2.heap.size := by omega
      try have hy1_2 : w1.heap.size < w2.heap.size := by omega
      have B2 := Lib.hid (B1.out.trans (hb2.mono B1.out.size))
      have KQ0 := Lib.hid ((hb2.block _ nr1).trans KP0.out)
      have KQ1 := Lib.hid ((hb2.block _ ns1).trans KP1.out)
      clear hc2 hf2 hb2
      go_wp2_with fail
      refine (qorder_any p2 q2 _).mono ?_
      rintro e w3 ⟨rfl, hw⟩
      obtain rfl := hw
      by_cases hx : strL p2 q2 = 0
      · have HX := Lib.hid (HS2.out.trans (if_neg (by simpa using hx)))
        have b2 : (strL p2 q2 != 0) = false := by simpa using hx
        clear hx
        go_wp2_with fail
        go_roundw
        case rel => exact ⟨j + 1, by go_num, by omega, HX.out, KQ0.out, KQ1.out, B2.out⟩
        case measure => simp [intOf]; omega
      · have HX := Lib.hid (HS2.out.trans (if_pos hx))
        have b2 : (strL p2 q2 != 0) = true := by simpa using hx
        clear hx
        go_wp2_with fail
        go_ret
        exact ⟨ret_int' HX.out.symm, B2.out⟩
    · have HX := Lib.hid (HE.out.trans (atsL_end (show j = min h.ats.length i.ats.length by omega)))
      clear hbw
      by_cases hja : j < h.ats.length
      · have d1 : decide (j < h.ats.length) = true := by simpa using hja
        have hjb : ¬ j < i.ats.length := by omega
        have d2 : decide (j < i.ats.length) = false := by simpa using hjb
        go_wp2_with fail
        refine (qsign_any _ _).mono ?_
        rintro e w2 ⟨rfl, hw⟩
        obtain rfl := hw
        go_wp2_with fail
        go_ret
        exact ⟨ret_int' (by rw [HX.out, sign_cmp]), BR.out⟩
      · have d1 : decide (j < h.ats.length) = false := by simpa using hja
        go_wp2_with fail
        refine (qsign_any _ _).mono ?_
        rintro e w2 ⟨rfl, hw⟩
        obtain rfl := hw
        go_wp2_with fail
        go_ret
        exact ⟨ret_int' (by rw [HX.out, sign_cmp]), BR.out⟩

theorem horder_any (h i : Hd) (aa ab : Option Addr) (ca cb : Nat) (w : World) (ha : AttrsLie w (.slice aa h.ats.length ca) h.ats) (hb : AttrsLie w (.slice ab i.ats.length cb) i.ats) (h1 : headErr h = 0) (h2 : headErr i = 0) :
    Calls Tryz.prog 88 #[.agg #[.int .i64 h.k, .string ⟨h.l.toArray⟩, .slice aa h.ats.length ca, .int .i64 h.n, .int .i64 h.d, .string ⟨h.x.toArray⟩], .agg #[.int .i64 i.k, .string ⟨i.l.toArray⟩, .slice ab i.ats.length cb, .int .i64 i.n, .int .i64 i.d, .string ⟨i.x.toArray⟩]] w fun e w' => e = .returned (.int .i64 (headL h i)) ∧ Below w.heap.size w w' := by
  by_cases hk : h.k = i.k
  · rcases head_kinds h1 with g | g | g
    · exact horder_elem h i aa ab ca cb w ha hb g.1 (by rw [← hk]; exact g.1) h1 h2
    · exact horder_num h i aa ab ca cb w g.1 (by rw [← hk]; exact g.1) h1 h2
    · exact horder_text h i aa ab ca cb w g.1 (by rw [← hk]; exact g.1) h1 h2
  · exact horder_kind h i aa ab ca cb w hk
end Go.Proofs.YtcgedpfolloinaaGreat
