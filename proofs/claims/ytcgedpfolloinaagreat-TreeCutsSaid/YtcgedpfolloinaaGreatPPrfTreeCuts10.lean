/- What the proof of PrfTreeCuts rests on, part 10 of 12. -/
import Derived.Deep.DeepCutAuto
import Derived.Test.YtcgedpfolloinaaGreatPPrfTreeCuts9
namespace Go.Proofs.YtcgedpfolloinaaGreat
open Go.RowKit

theorem all2_append {α β : Type} {R : α → β → Prop} : ∀ {l l2 : List α} {m m2 : List β}, All2 R l m → All2 R l2 m2 → All2 R (l ++ l2) (m ++ m2)
  | _, _, _, _, .nil, h => h
  | _, _, _, _, .cons h1 h2, h => .cons h1 (all2_append h2 h)
theorem all2_len {α β : Type} {R : α → β → Prop} : ∀ {l : List α} {m : List β}, All2 R l m → m.length = l.length
  | _, _, .nil => rfl
  | _, _, .cons _ h => by simp [all2_len h]
/-- a row of paths that is owned. -/
def PathsO (B : Nat) (W : World) (v : Value) (ps : List (List Nat)) : Prop := ∃ cs, W.ownsRow B 41 1 v ps.length cs ∧ All2 (PathAt B W) ps cs
def StabP (B g : Nat) (W0 : World) (ps : List (List Nat)) (cs : List Value) : Prop :=
  ∀ W : World, W0.heap.size ≤ W.heap.size → (∀ k o, B ≤ k → k < W0.heap.size → k ≠ g → W.cell? ⟨k, o, none⟩ = W0.cell? ⟨k, o, none⟩) → All2 (PathAt B W) ps cs
theorem StabP.next {B g g' : Nat} {W0 W1 : World} {ps : List (List Nat)} {cs : List Value} (h : StabP B g W0 ps cs) (hs : W0.heap.size ≤ W1.heap.size) (hc : ∀ k o, B ≤ k → k < W0.heap.size → k ≠ g → W1.cell? ⟨k, o, none⟩ = W0.cell? ⟨k, o, none⟩) (hg : g' = g ∨ W0.heap.size ≤ g') :
    StabP B g' W1 ps cs := fun W hW hk => h W (Nat.le_trans hs hW) fun k o h1 h2 h3 => (hk k o h1 (Nat.lt_of_lt_of_le h2 hs) (by rcases hg with rfl | hg; exact h3; omega)).trans (hc k o h1 h2 h3)
/-- what an append leaves as it was. -/
theorem grown_cells {X w5 : World} {v : Value} {n cap' g' x B : Nat} {o : Obj} (hgrow : (X.alloc o).grownBy w5 v.ownBlock) (hat : (Value.slice (some ⟨g', 0, none⟩) n cap').ownBlock = v.ownBlock ∨ (Value.slice (some ⟨g', 0, none⟩) n cap').ownBlock = some x) (hx : X.heap.size ≤ x) :
    ∀ W : World, w5.heap.size ≤ W.heap.size → (∀ k o, B ≤ k → k < w5.heap.size → k ≠ g' → W.cell? ⟨k, o, none⟩ = w5.cell? ⟨k, o, none⟩) → ∀ k' o, B ≤ k' → k' < X.heap.size → (∀ j, v.ownBlock = some j → k' ≠ j) → W.cell? ⟨k', o, none⟩ = X.cell? ⟨k', o, none⟩ := by
  intro W hW hc k' o' h1 h2 h3
  have hs := hgrow.size
  simp at hs
  refine (hc k' o' h1 (by omega) ?_).trans (World.cell?_of_block ?_)
  · rcases hat with h | h
    · exact h3 g' (h.symm.trans rfl)
    · have : g' = x := by simpa [Value.ownBlock] using h
      omega
  · rw [hgrow.block k' (by simp; omega) (by intro h; exact h3 k' h.symm rfl), Below.heap_alloc _ _ k' h2]
theorem grown_cells' {X w5 : World} {v : Value} {n cap' g' x B : Nat} (hgrow : X.grownBy w5 v.ownBlock) (hat : (Value.slice (some ⟨g', 0, none⟩) n cap').ownBlock = v.ownBlock ∨ (Value.slice (some ⟨g', 0, none⟩) n cap').ownBlock = some x) (hx : X.heap.size ≤ x) :
    ∀ W : World, w5.heap.size ≤ W.heap.size → (∀ k o, B ≤ k → k < w5.heap.size → k ≠ g' → W.cell? ⟨k, o, none⟩ = w5.cell? ⟨k, o, none⟩) → ∀ k' o, B ≤ k' → k' < X.heap.size → (∀ j, v.ownBlock = some j → k' ≠ j) → W.cell? ⟨k', o, none⟩ = X.cell? ⟨k', o, none⟩ := by
  intro W hW hc k' o' h1 h2 h3
  have hs := hgrow.size
  refine (hc k' o' h1 (by omega) ?_).trans (World.cell?_of_block ?_)
  · rcases hat with h | h
    · exact h3 g' (h.symm.trans rfl)
    · have : g' = x := by simpa [Value.ownBlock] using h
      omega
  · rw [hgrow.block k' h2 (by intro h; exact h3 k' h.symm rfl)]
theorem pathAt_of {B : Nat} {W : World} {a : Option Addr} {c : Nat} {p : List Nat} {k : Nat} (h : IntsF B W (.slice a (p.length + 1) c) (pathInts p ++ [(k : Int)])) : PathAt B W (p ++ [k]) (.slice a (p.length + 1) c) :=
  ⟨a, c, by simp, by simpa using h⟩
abbrev psK (p : List Nat) (f : Fo) (k : Nat) : List (List Nat) := (seqAt p 0 (f.take k)).map (·.p)
theorem psK_succ {p : List Nat} {f : Fo} {k : Nat} {h : Hd} {ks r : Fo} (e : f.drop k = .cons h ks r) : psK p f (k + 1) = (psK p f k ++ [p ++ [k]]) ++ (seqAt (p ++ [k]) 0 ks).map (·.p) := by
  unfold psK
  rw [seqAt_take_succ p 0 e]
  simp

set_option maxRecDepth 100000 in
set_option maxHeartbeats 8000000 in
theorem pathsOf_of (f : Fo) (p : List Nat) (v pv : Value) (w : World) (hl : Lies w v f) (hp : IntsLie w pv (pathInts p)) (hpl : p.length + f.size ≤ 1000000)
    (HT : ∀ hd ks k, k < f.len → f.drop k = .cons hd ks (f.drop (k + 1)) → ∀ v pv w, Lies w v ks → IntsLie w pv (pathInts (p ++ [k])) → Calls Tryz.prog 100 #[v, pv] w fun e w' => ∃ a c, e = .returned (.slice a ((seqAt (p ++ [k]) 0 ks).map (·.p)).length c) ∧ PathsO w.heap.size w' (.slice a ((seqAt (p ++ [k]) 0 ks).map (·.p)).length c) ((seqAt (p ++ [k]) 0 ks).map (·.p)) ∧ Below w.heap.size w w') :
    Calls Tryz.prog 100 #[v, pv] w fun e w' => ∃ a c, e = .returned (.slice a ((seqAt p 0 f).map (·.p)).length c) ∧ PathsO w.heap.size w' (.slice a ((seqAt p 0 f).map (·.p)).length c) ((seqAt p 0 f).map (·.p)) ∧ Below w.heap.size w w' := by
  obtain ⟨i0, hi, hz0, hz1, hz2⟩ := info_parts info_ints2
  have hlen := lies_len hl
  have hlf := Fo.len_le_size f
  have HL := Lib.hid hl
  have HP := Lib.hid hp
  have HT' := Lib.hid HT
  have BL := Lib.hid (fun (k : Nat) W (hW : Below w.heap.size w W) => below_any pv (pathInts p) (k : Int) W (ints_below hp hW) (by simp; omega))
  have HK := Lib.hid (show ∀ k, (psK p f k).length ≤ f.size from fun k => by
    have h1 : (psK p f k).length = (f.take k).size := by unfold psK; rw [List.length_map, seqAt_len]
    have h2 := congrArg Fo.size (Fo.take_app_drop k f)
    rw [Fo.size_app] at h2
    omega)
  obtain ⟨av, cv, rfl⟩ := lies_form hl
  obtain ⟨pa, pc, rfl⟩ := ints_form hp
  simp only [List.length_map] at BL HP
  clear hl hp HT
  go_enter Tryz.func100, Tryz.ntmps100
  go_wp2_with fail
  go_loopw [5, 6] (fun v5 i wr => ∃ (k g : Nat) (a : Option Addr) (cap : Nat) (cs : List Value), i = .int .i64 k ∧ k ≤ f.len ∧ v5 = .slice a (psK p f k).length cap ∧ (∀ b, (Value.slice a (psK p f k).length cap).ownBlock = some b → b = g) ∧ wr.ownsRow w.heap.size 41 1 (.slice a (psK p f k).length cap) (psK p f k).length cs ∧ StabP w.heap.size g wr (psK p f k) cs ∧ Below w.heap.size w wr) (fun _ i _ => f.len - (intOf i).toNat)
  case atStart =>
    have h0 : psK p f 0 = [] := by unfold psK; cases f <;> rfl
    refine ⟨0, 0, none, 0, [], rfl, Nat.zero_le _, by rw [h0]; rfl, fun b hb => by simp [Value.ownBlock] at hb, by rw [h0]; exact ⟨rfl, .inl ⟨rfl, rfl⟩⟩, ?_, Below.refl _ _⟩
    intro W _ _
    rw [h0]
    exact .nil
  case round =>
    obtain ⟨k, g, a, cap, cs, rfl, hk, rfl, hg, hown, hst, hbw⟩ := hrel
    have hsw := hbw.size
    have HOWN := Lib.hid hown
    have HST := Lib.hid hst
    have HG := Lib.hid hg
    have hgl := Lib.hid (fun b (hb : (Value.slice a (psK p f k).length cap).ownBlock = some b) => hown.lt b hb)
    clear hown hst hg
    have hpk := HK.out k
    by_cases hlt : k < f.len
    · have dk : decide (k < f.len) = true := by simpa using hlt
      obtain ⟨b, o, cap0, hs, hcap, -, hb, hrow⟩ := lies_row HL.out (by omega)
      simp only [Value.slice.injEq] at hs
      obtain ⟨rfl, -, rfl⟩ := hs
      obtain ⟨hd, ks, e, -, vk, q6, hlk⟩ := row_get hrow hlt
      obtain ⟨ak, ck, rfl⟩ := lies_form hlk
      have HE := Lib.hid (psK_succ (p := p) e)
      have HC := Lib.hid (fun pv W (hW : Below w.heap.size w W) hp => HT'.out hd ks k hlt e _ pv W (lies_below hlk hW) hp)
      have hkq : ((seqAt (p ++ [k]) 0 ks).map (·.p)).length ≤ f.size := by
        have := HK.out (k + 1)
        rw [HE.out] at this
        simp only [List.length_append] at this
        omega
      generalize (seqAt (p ++ [k]) 0 ks).map (·.p) = qs at *
      clear hlk e hrow HT'
      generalize hps : psK p f k = ps at *
      clear hps
      go_wp2_with fail
      refine (BL.out k wr hbw).mono ?_
      rintro e X1 ⟨a1, c1, rfl, hi1, hb1⟩
      have HI1 := Lib.hid hi1
      have hs1 := hb1.size
      have O1 := Lib.hid (owns_belowV HOWN.out hb1)
      have B1 := hbw.trans (hb1.mono hsw)
      have hnew := World.alloc_heap_new X1 (.cells #[.slice a1 (p.length + 1) c1] 41)
      have hbx1 := B1.size
      have C1 := Lib.hid ((bcell hb1).1)
      clear hi1 hb1
      go_upto_region 6 with fail
      go_wp2_with (at_builtin; refine wpList_append_own_at _ rfl _ _ 49 rfl w.heap.size 41 i0 _ 1 24 Tryz.underlying49 hi hz0 hz1 hz2 rfl (by decide) _ ps.length cs rfl (O1.out.alloc _) ⟨X1.heap.size, 0, none⟩ 1 1 [.slice a1 (p.length + 1) c1] rfl rfl ?c1 ?c2 ?c3 ?c4 ?c5 ?stop)
      case c1 =>
        intro j u hj
        rw [Go.WideShapes.add_plain]
        cases j with
        | zero => simp at hj; subst hj; exact cell_of_block hnew rfl
        | succ j => simp at hj
      case c2 => intro u hu; simp at hu; subst hu; rfl
      case c3 => unfold maxLen; omega
      case c4 => omega
      case c5 => simp; omega
      case stop =>
        intro v' w3 hown' hgrow _ hat
        obtain ⟨g', cap', rfl⟩ : ∃ g cap, v' = .slice (some ⟨g, 0, none⟩) (ps.length + 1) cap := by
          rcases hown'.2 with ⟨_, h0⟩ | ⟨g, cap, cur, hv, _⟩
          · omega
          · exact ⟨g, cap, hv⟩
        have hs3 := hgrow.size
        simp at hs3
        have hcell := grown_cells (B := w.heap.size) hgrow hat (by simp)
        have hg3 : g' < w3.heap.size ∧ w.heap.size ≤ g' ∧ (g' < X1.heap.size → (Value.slice a ps.length cap).ownBlock = some g') := by
          have := hown'.lt g' rfl
          refine ⟨this.2, this.1, fun h => ?_⟩
          rcases hat with e | e
          · exact e.symm.trans rfl
          · have : g' = X1.heap.size + 1 := by simpa [Value.ownBlock] using e
            omega
        have S3 := Lib.hid (show StabP w.heap.size g' w3 (ps ++ [p ++ [k]]) (cs ++ [.slice a1 (p.length + 1) c1]) by
          intro W hW hc
          have hcc := hcell W hW hc
          have hk : Keeps wr.heap.size X1 W := ⟨by omega, fun k' o' h1 h2 => hcc k' o' (by omega) h2 (fun j hj => by have := (hgl.out j hj).2; omega)⟩
          exact all2_append (HST.out W (by omega) fun k' o' h1 h2 h3 => (hcc k' o' h1 (by omega) (fun j hj => by rw [HG.out j hj]; exact h3)).trans (C1.out k' o' h2)) (.cons ((pathAt_of HI1.out).keeps hk |>.mono (by omega)) .nil))
        have O3 := Lib.hid (show w3.ownsRow w.heap.size 41 1 (.slice (some ⟨g', 0, none⟩) (ps.length + 1) cap') (ps.length + 1) (cs ++ [.slice a1 (p.length + 1) c1]) from hown')
        have B3 := (B1.alloc hbx1 (.cells #[.slice a1 (p.length + 1) c1] 41)).grown hgrow (by simp; omega) (fun k hk => (hgl.out k hk).1)
        have I3 := Lib.hid (show IntsLie w3 (.slice a1 (p.length + 1) c1) (pathInts (p ++ [k])) by
          have hk : Keeps wr.heap.size X1 w3 := ⟨by omega, fun k' o' h1 h2 => hcell w3 (Nat.le_refl _) (fun _ _ _ _ _ => rfl) k' o' (by omega) h2 (fun j hj => by have := (hgl.out j hj).2; omega)⟩
          have := intsF_lies (intsF_keeps HI1.out hk)
          simpa using this)
        have r6 : w3.cell? ⟨b, o + k * 7 + 6, none⟩ = some (.slice ak ks.len ck) := (B3.cell (p := ⟨b, o + k * 7 + 6, none⟩) hb).trans q6
        have hb3 : b < w3.heap.size := by have := B3.size; omega
        clear hown' hgrow hat hcell hnew q6
        go_wp2_with fail
        refine (HC.out _ w3 B3 I3.out).mono ?_
        rintro e X4 ⟨a4, c4, rfl, ⟨cs4, hown4, hall4⟩, hb4⟩
        have hs4 := hb4.size
        have B4 := B3.trans (hb4.mono B3.size)
        have O4 := Lib.hid (owns_belowV O3.out hb4)
        have C4 := Lib.hid ((bcell hb4).1)
        have S4 := Lib.hid (S3.out.next (W1 := X4) (g' := g') hs4 (fun k o _ h2 _ => C4.out k o h2) (.inl rfl))
        have A4 := Lib.hid hall4
        have hl4 := all2_len hall4
        have hbx4 := B4.size
        clear hb4 hall4 B3
        rcases hown4.2 with ⟨h1, h2⟩ | ⟨g4, cap4, cur4, h1, h3, h4, h5, h6, h7, h8⟩
        · obtain rfl : qs = [] := List.eq_nil_of_length_eq_zero h2
          simp only [List.length_nil, Value.slice.injEq, true_and] at h1
          obtain ⟨rfl, rfl⟩ := h1
          have HE2 := Lib.hid (show psK p f (k + 1) = ps ++ [p ++ [k]] by rw [HE.out]; simp)
          simp only [List.length_nil]
          clear hown4
          go_wp2_with (at_builtin; refine Lib.wpList_append_run _ rfl _ _ _ _ rfl _ _ rfl rfl _ _ (append_none 49 _ 41 i0 1 Tryz.underlying49 hi _ _ _ _ O4.out) ?_)
          go_roundw
          case rel => exact ⟨k + 1, g', some ⟨g', 0, none⟩, cap', _, by go_num, by omega, by rw [HE2.out]; simp, fun b hb => by simpa [Value.ownBlock] using hb.symm, by rw [HE2.out]; simpa using O4.out, by rw [HE2.out]; exact S4.out, B4⟩
          case measure => simp [intOf]; omega
        · simp only [Value.slice.injEq, true_and] at h1
          obtain ⟨rfl, rfl⟩ := h1
          have hcs := hown4.cells (g := g4) rfl
          have hl5 := hown4.1
          have h4l := (hown4.lt g4 rfl).2
          clear hown4
          go_wp2_with (at_builtin; refine wpList_append_own_at _ rfl _ _ 49 rfl w.heap.size 41 i0 _ 1 24 Tryz.underlying49 hi hz0 hz1 hz2 rfl (by decide) (.slice (some ⟨g', 0, none⟩) (ps.length + 1) cap') (ps.length + 1) (cs ++ [Value.slice a1 (p.length + 1) c1]) rfl O4.out ⟨g4, 0, none⟩ qs.length _ cs4 rfl (by omega) hcs ?c2 ?c3 ?c4 ?c5 ?stop)
          case c2 =>
            intro u hu
            obtain ⟨j, hj, rfl⟩ := List.getElem_of_mem hu
            obtain ⟨c, hc, hpa⟩ := all2_get (d := []) A4.out j (by omega)
            rw [List.getElem?_eq_getElem hj] at hc
            obtain ⟨x1, x2, hx, -⟩ := hpa
            rw [Option.some.inj hc, hx]; rfl
          case c3 => unfold maxLen; omega
          case c4 => omega
          case c5 => omega
          case stop =>
            intro v' w5 hown' hgrow _ hat
            obtain ⟨g5, cap5, rfl⟩ : ∃ g cap, v' = .slice (some ⟨g, 0, none⟩) (ps.length + 1 + qs.length) cap := by
              rcases hown'.2 with ⟨_, h0⟩ | ⟨g, cap, cur, hv, _⟩
              · omega
              · exact ⟨g, cap, hv⟩
            have hs5 := hgrow.size
            have hcell := grown_cells' (B := w.heap.size) hgrow hat (Nat.le_refl _)
            have hlen5 : ((ps ++ [p ++ [k]]) ++ qs).length = ps.length + 1 + qs.length := by simp; omega
            have S5 := Lib.hid (show StabP w.heap.size g5 w5 ((ps ++ [p ++ [k]]) ++ qs) ((cs ++ [.slice a1 (p.length + 1) c1]) ++ cs4) by
              intro W hW hc
              have hcc := hcell W hW hc
              have hk : Keeps w3.heap.size X4 W := ⟨by omega, fun k' o' h1 h2 => hcc k' o' (by omega) h2 (fun j hj => by
                have : g' = j := by simpa [Value.ownBlock] using hj
                omega)⟩
              exact all2_append (S4.out W (by omega) fun k' o' h1 h2 h3 => hcc k' o' h1 h2 (fun j hj => by
                have : g' = j := by simpa [Value.ownBlock] using hj
                omega)) (forall2_next (fun _ _ h => (PathAt.keeps h hk).mono (by omega)) A4.out))
            have O5 := Lib.hid (show w5.ownsRow w.heap.size 41 1 (.slice (some ⟨g5, 0, none⟩) (ps.length + 1 + qs.length) cap5) (ps.length + 1 + qs.length) ((cs ++ [.slice a1 (p.length + 1) c1]) ++ cs4) by simpa using hown')
            have B5 := B4.grown hgrow hbx4 (fun k hk => by
              have : g' = k := by simpa [Value.ownBlock] using hk
              omega)
            clear hown' hgrow hat hcell
            go_wp2_with fail
            go_roundw
            case rel => exact ⟨k + 1, g5, some ⟨g5, 0, none⟩, cap5, _, by go_num, by omega, by rw [HE.out, hlen5], fun b hb => by simpa [Value.ownBlock] using hb.symm, by rw [HE.out, hlen5]; exact O5.out, by rw [HE.out]; exact S5.out, B5⟩
            case measure => simp [intOf]; omega
    · have dk : decide (k < f.len) = false := by simpa using hlt
      obtain rfl : k = f.len := by omega
      have he : psK p f f.len = (seqAt p 0 f).map (·.p) := by unfold psK; rw [take_all]
      have HF := Lib.hid (show PathsO w.heap.size wr (.slice a (psK p f f.len).length cap) (psK p f f.len) from ⟨cs, HOWN.out, HST.out wr (Nat.le_refl _) (fun _ _ _ _ _ => rfl)⟩)
      rw [he] at HF
      go_wp2_with fail
      go_ret
      exact ⟨a, cap, by rw [← he]; rfl, HF.out, hbw⟩

theorem pathsOf_any : ∀ (N : Nat) (f : Fo), f.size ≤ N → ∀ (p : List Nat), p.length + f.size ≤ 1000000 → ∀ (v pv : Value) (w : World), Lies w v f → IntsLie w pv (pathInts p) →
    Calls Tryz.prog 100 #[v, pv] w fun e w' => ∃ a c, e = .returned (.slice a ((seqAt p 0 f).map (·.p)).length c) ∧ PathsO w.heap.size w' (.slice a ((seqAt p 0 f).map (·.p)).length c) ((seqAt p 0 f).map (·.p)) ∧ Below w.heap.size w w' := by
  intro N
  induction N with
  | zero =>
    intro f hf p hb v pv w hl hp
    exact pathsOf_of f p v pv w hl hp hb (fun h ks k hj _ => by have := Fo.len_le_size f; omega)
  | succ N ih =>
    intro f hf p hb v pv w hl hp
    refine pathsOf_of f p v pv w hl hp hb (fun hd ks k hj e v pv w hk hp => ?_)
    have := kid_size e
    exact ih ks (by omega) (p ++ [k]) (by simp; omega) v pv w hk hp
theorem PathsO.paths {B : Nat} {W : World} {v : Value} {ps : List (List Nat)} (h : PathsO B W v ps) : PathsF B W v ps := by
  obtain ⟨cs, hown, hall⟩ := h
  have hl := all2_len hall
  rcases hown.2 with ⟨rfl, h0⟩ | ⟨g, cap, cur, rfl, h1, h2, h3, h4, h5, h6⟩
  · exact ⟨none, 0, by rw [h0], .inl (List.eq_nil_of_length_eq_zero h0)⟩
  · refine ⟨_, cap, rfl, .inr ⟨g, rfl, h3, h1, (hown.lt g rfl).2, fun k hk => ?_⟩⟩
    obtain ⟨c, hc, hp⟩ := all2_get (d := []) hall k hk
    have := hown.cells (g := g) rfl k c hc
    rw [Go.WideShapes.add_plain, Nat.zero_add] at this
    exact ⟨c, this, hp⟩
end Go.Proofs.YtcgedpfolloinaaGreat

namespace Go.Proofs.YtcgedpfolloinaaGreat
open Go.RowKit

/-- what At gives. -/
def atV (f : Fo) (p : List Int) : Hd × Fo := if atErr f p = 0 then (placeF f p).getD (zeroHd, .nil) else (zeroHd, .nil)
theorem at_res {w w' : World} {f : Fo} {p : List Int} {e : Ending} (h : AtRes w f p e w') : ∃ aa ca ak ck, e = .returned (.tuple #[aggOf (atV f p).1 aa ca ak (atV f p).2.len ck, .int .i64 (atErr f p)]) ∧ AttrsLie w' (.slice aa (atV f p).1.ats.length ca) (atV f p).1.ats ∧ Lies w' (.slice ak (atV f p).2.len ck) (atV f p).2 ∧ Below w.heap.size w w' := by
  obtain ⟨h, ks, aa, ca, ak, ck, rfl, hA, hK, hor, hb⟩ := h
  have hv : atV f p = (h, ks) := by
    unfold atV
    rcases hor with ⟨h1, h2⟩ | ⟨h1, rfl, rfl⟩
    · rw [if_pos h1, h2]; rfl
    · rw [if_neg h1]
  rw [hv]
  exact ⟨aa, ca, ak, ck, rfl, attrsF_lies hA, liesF_lies hK, hb⟩

end Go.Proofs.YtcgedpfolloinaaGreat

namespace Go.Proofs.YtcgedpfolloinaaGreat
open Go.RowKit

set_option maxRecDepth 100000 in
set_option maxHeartbeats 2000000 in
theorem chosen_any (f : Fo) (v : Value) (m k : Nat) (x : Vis) (w : World) (hl : Lies w v f) (hs : f.size ≤ 100000) (hm : m ≤ 65535) (hx : (seqAt [] 0 f)[k]? = some x) (hk : Int.tmod (m : Int) (f.size : Int) = (k : Int)) :
    Calls Tryz.prog 61 #[v, .int .u16 m] w fun e w' => ∃ a c, e = .returned (.slice a x.p.length c) ∧ IntsF w.heap.size w' (.slice a x.p.length c) (pathInts x.p) ∧ Below w.heap.size w w' := by
  have PO := Lib.hid (pathsOf_any _ f (Nat.le_refl _) [] (by simp; omega) v (.slice none 0 0) w hl (.inl ⟨_, _, rfl, rfl⟩))
  have len := seqAt_len f [] 0
  have hkn : k < f.size := by rw [← len]; exact (List.getElem?_eq_some_iff.1 hx).1
  have g1 := Lib.hid (show ((seqAt [] 0 f).map (·.p)).getD k [] = x.p by simp [List.getD_eq_getElem?_getD, hx])
  have hL : ((seqAt [] 0 f).map (·.p)).length = f.size := by rw [List.length_map, len]
  obtain ⟨av, cv, rfl⟩ := lies_form hl
  clear hl hx len
  generalize (seqAt [] 0 f).map (·.p) = L at *
  have e2n : decide (0 < f.size) = true := by simp; omega
  have HN := Lib.hid hL
  rw [hL] at PO
  generalize f.size = n at *
  clear hL
  go_enter Tryz.func61, Tryz.ntmps61
  go_wp2_with fail
  refine PO.out.mono ?_
  rintro e X1 ⟨a1, c1, rfl, hO, hb1⟩
  rw [← HN.out] at hO
  obtain ⟨a2, c2, e, i⟩ := hO.paths
  simp only [Value.slice.injEq, true_and] at e
  obtain ⟨rfl, rfl⟩ := e
  rcases i with i | ⟨b, rfl, hcp, hB, hb, hc⟩
  · have := HN.out
    rw [i] at this; simp at this; omega
  obtain ⟨c', q1, a3, c3, rfl, i3⟩ := hc k (by rw [HN.out]; omega)
  rw [g1.out] at q1 i3
  have HI := Lib.hid i3
  clear hc hO i3 hcp hB
  go_wp2_with fail
  go_ret
  exact ⟨a3, c3, rfl, HI.out, hb1⟩
end Go.Proofs.YtcgedpfolloinaaGreat

namespace Go.Proofs.YtcgedpfolloinaaGreat
open Go.RowKit

theorem at_ok {w w' : World} {f : Fo} {p : List Int} {e : Ending} {h : Hd} {ks : Fo} (he : atErr f p = 0) (hp : placeF f p = some (h, ks)) (H : AtRes w f p e w') :
    ∃ aa ca ak ck, e = .returned (.tuple #[aggOf h aa ca ak ks.len ck, .int .i64 0]) ∧ AttrsLie w' (.slice aa h.ats.length ca) h.ats ∧ Lies w' (.slice ak ks.len ck) ks ∧ Below w.heap.size w w' := by
  obtain ⟨aa, ca, ak, ck, rfl, h1, h2, h3⟩ := at_res H
  have hv : atV f p = (h, ks) := by unfold atV; rw [if_pos he, hp]; rfl
  rw [hv] at h1 h2 ⊢
  rw [he]
  exact ⟨aa, ca, ak, ck, rfl, h1, h2, h3⟩

end Go.Proofs.YtcgedpfolloinaaGreat

namespace Go.Proofs.YtcgedpfolloinaaGreat
open Go.RowKit

/-- the forest at a path. -/
def goTo : Fo → List Nat → Option Fo
  | f, [] => some f
  | f, i :: q => match nth f i with
    | some (_, ks) => goTo ks q
    | none => none
/-- tree number i has other kids. -/
def setK (f : Fo) (i : Nat) (h : Hd) (x : Fo) : Fo := (f.take i).app (.cons h x (f.drop (i + 1)))
/-- the forest at a path is another one. -/
def changeAt : Fo → List Nat → Fo → Fo
  | _, [], x => x
  | f, i :: q, x => match nth f i with
    | some (h, ks) => setK f i h (changeAt ks q x)
    | none => f
/-- n trees from i on are others. -/
def spl (g : Fo) (i n : Nat) (b : Fo) : Fo := (g.take i).app (b.app (g.drop (i + n)))
theorem goTo_snoc : ∀ (q : List Nat) (f : Fo) {g : Fo} {i : Nat} {h : Hd} {ks : Fo}, goTo f q = some g → nth g i = some (h, ks) → goTo f (q ++ [i]) = some ks
  | [], f, g, i, h, ks, e, e2 => by
    cases e
    simp [goTo, e2]
  | a :: q, f, g, i, h, ks, e, e2 => by
    simp only [List.cons_append, goTo] at e ⊢
    cases hn : nth f a with
    | none => rw [hn] at e; cases e
    | some x =>
      rw [hn] at e
      exact goTo_snoc q x.2 e e2
theorem changeAt_snoc : ∀ (q : List Nat) (f : Fo) {g : Fo} {i : Nat} {h : Hd} {ks : Fo} (x : Fo), goTo f q = some g → nth g i = some (h, ks) → changeAt f (q ++ [i]) x = changeAt f q (setK g i h x)
  | [], f, g, i, h, ks, x, e, e2 => by
    cases e
    simp [changeAt, e2]
  | a :: q, f, g, i, h, ks, x, e, e2 => by
    simp only [List.cons_append, goTo, changeAt] at e ⊢
    cases hn : nth f a with
    | none => simp [hn] at e
    | some y =>
      rw [hn] at e
      exact congrArg (setK f a y.1) (changeAt_snoc q y.2 x e e2)
theorem nth_take : ∀ (f : Fo) (i j : Nat), nth (f.take i) j = if j < i then nth f j else none
  | .nil, i, j => by cases i <;> simp [Fo.take, nth]
  | .cons h ks r, 0, j => by simp [Fo.take, nth]
  | .cons h ks r, i + 1, 0 => by simp [Fo.take, nth]
  | .cons h ks r, i + 1, j + 1 => by simp [Fo.take, nth, nth_take r i j]
theorem nth_dropped : ∀ (f : Fo) (i j : Nat), nth (f.drop i) j = nth f (i + j)
  | .nil, i, j => by rw [Fo.drop_nil]; rfl
  | .cons h ks r, 0, j => by simp [Fo.drop]
  | .cons h ks r, i + 1, j => by
    rw [show i + 1 + j = (i + j) + 1 by omega]
    simp only [Fo.drop, nth]
    exact nth_dropped r i j
theorem nth_setK {f : Fo} {i : Nat} (hi : i < f.len) (h : Hd) (x : Fo) (j : Nat) : nth (setK f i h x) j = if j = i then some (h, x) else nth f j := by
  unfold setK
  rw [nth_app, len_take f i (by omega), nth_take]
  by_cases h1 : j < i
  · rw [if_pos h1, if_pos h1, if_neg (by omega)]
  · rw [if_neg h1]
    by_cases h2 : j = i
    · subst h2
      rw [if_pos rfl, Nat.sub_self]; rfl
    · rw [if_neg h2]
      obtain ⟨m, rfl⟩ : ∃ m, j = i + 1 + m := ⟨j - i - 1, by omega⟩
      rw [show i + 1 + m - i = m + 1 by omega]
      simp only [nth]
      rw [nth_dropped]
theorem len_setK {f : Fo} {i : Nat} (hi : i < f.len) (h : Hd) (x : Fo) : (setK f i h x).len = f.len := by
  unfold setK
  rw [Fo.len_app, len_take f i (by omega)]
  simp only [Fo.len]
  rw [Fo.len_drop]
  omega
theorem setK_self {f : Fo} {i : Nat} {h : Hd} {ks : Fo} (e : nth f i = some (h, ks)) : setK f i h ks = f := by
  refine fo_ext fun j => ?_
  rw [nth_setK (nth_lt e)]
  by_cases hj : j = i
  · subst hj; rw [if_pos rfl, e]
  · rw [if_neg hj]
theorem changeAt_self : ∀ (q : List Nat) (f : Fo) {g : Fo}, goTo f q = some g → changeAt f q g = f
  | [], f, g, e => by cases e; rfl
  | a :: q, f, g, e => by
    simp only [goTo, changeAt] at e ⊢
    cases hn : nth f a with
    | none => simp [hn] at e
    | some y =>
      rw [hn] at e
      simp only
      rw [changeAt_self q y.2 e]
      exact setK_self hn
end Go.Proofs.YtcgedpfolloinaaGreat

namespace Go.Proofs.YtcgedpfolloinaaGreat
open Go.RowKit

theorem cell_get {W : World} {b o : Nat} {C : Array Value} {T : TypeId} {fr : Nat × Nat} {v : Value} (h : W.heap[b]? = some (.cells C T fr)) (hc : W.cell? ⟨b, o, none⟩ = some v) : C[o]? = some v := by
  unfold World.cell? at hc
  simpa [h] using hc
/-- whatever is stored at a place, and lies there, is part of the forest that lies in block G. -/
def Hole (W : World) (G pb po Bg B0 : Nat) (Ig : Nat → Prop) (f : Fo) (pre : List Nat) : Prop :=
  ∀ (W' : World) (v' : Value) (g' : Fo), W.heap.size ≤ W'.heap.size → (∀ x, x < W.heap.size → ¬ Ig x → x ≠ pb → W'.heap[x]? = W.heap[x]?) →
    (∀ o, o ≠ po → W'.cell? ⟨pb, o, none⟩ = W.cell? ⟨pb, o, none⟩) → W'.cell? ⟨pb, po, none⟩ = some v' → LiesF Bg W' v' g' → ∃ vt, W'.cell? ⟨G, 0, none⟩ = some vt ∧ LiesF B0 W' vt (changeAt f pre g')
theorem Hole.top (W : World) (G B0 : Nat) (I : Nat → Prop) (f : Fo) : Hole W G G 0 B0 B0 I f [] := fun _ v' _ _ _ _ h1 h2 => ⟨v', h1, h2⟩
theorem Hole.step {W : World} {G pb po Bg B0 : Nat} {Ig : Nat → Prop} {f : Fo} {pre : List Nat} {g : Fo} {b cap : Nat} {own : Nat → Nat} {i : Nat} {h : Hd} {ks : Fo} (H : Hole W G pb po Bg B0 Ig f pre) (hpb : ¬ Ig pb) (hpl : pb < W.heap.size)
    (hB : ∀ x, Ig x → Bg ≤ x) (hv : W.cell? ⟨pb, po, none⟩ = some (.slice (some ⟨b, 0, none⟩) g.len cap)) (hcap : g.len ≤ cap) (hlen : g.len ≤ 2000000000000) (hI : Ig b) (hb : b < W.heap.size)
    (hT : TreesO Ig own W g b 0 g.len) (hg : goTo f pre = some g) (hn : nth g i = some (h, ks)) : Hole W G b (i * 7 + 6) (b + 1) B0 (cls Ig own b (2 * i + 1)) f (pre ++ [i]) := by
  intro W' v' g' hs hx hc h1 h2
  rw [changeAt_snoc pre f g' hg hn]
  have hpx := hx pb hpl (fun hc => hpb hc.1) (fun e => hpb (e ▸ hI))
  refine H W' (.slice (some ⟨b, 0, none⟩) g.len cap) (setK g i h g') hs ?_ ?_ ?_ ?_
  · intro x hl hx1 hx2
    exact hx x hl (fun hc => hx1 hc.1) (fun e => hx1 (e ▸ hI))
  · intro o _
    exact World.cell?_of_block (w := W) hpx
  · exact (World.cell?_of_block (w := W) hpx).trans hv
  · have hil := nth_lt hn
    have hll := len_setK hil h g'
    refine .inr ⟨b, 0, cap, by rw [hll], by rw [hll]; exact hcap, by rw [hll]; exact hlen, hB b hI, by omega, rowF_of _ 0 ?_⟩
    intro j h' ks' hj e
    rw [hll] at hj
    rw [Nat.zero_add]
    have e1 := nth_drop e
    rw [nth_setK hil] at e1
    have kc : ∀ c, c ≠ 2 * i + 1 → KeepsO (cls Ig own b c) W W' := fun c hc' => ⟨hs, fun x hx1 hl => hx x hl (fun h2 => hc' (hx1.2.2.symm.trans h2.2.2)) (Nat.ne_of_gt hx1.2.1)⟩
    have hBc : ∀ c x, cls Ig own b c x → Bg ≤ x := fun c x hx => hB x hx.1
    by_cases hj2 : j = i
    · subst hj2
      rw [if_pos rfl] at e1
      cases e1
      have H' := hT j h ks hj (drop_nth hn)
      rw [Nat.zero_add] at H'
      obtain ⟨⟨q0, q1, ⟨va, q2, ha⟩, q3, q4, q5⟩, -⟩ := H'
      exact ⟨⟨(hc _ (by omega)).trans q0, (hc _ (by omega)).trans q1, ⟨va, (hc _ (by omega)).trans q2, attrsO_F (hBc _) (attrsO_keeps ha (kc _ (by omega)))⟩, (hc _ (by omega)).trans q3, (hc _ (by omega)).trans q4, (hc _ (by omega)).trans q5⟩,
        v', h1, liesF_mono (by have := hB b hI; omega) h2⟩
    · rw [if_neg hj2] at e1
      have H' := hT j h' ks' hj (drop_nth e1)
      rw [Nat.zero_add] at H'
      obtain ⟨⟨q0, q1, ⟨va, q2, ha⟩, q3, q4, q5⟩, v, q6, hk⟩ := H'
      exact ⟨⟨(hc _ (by omega)).trans q0, (hc _ (by omega)).trans q1, ⟨va, (hc _ (by omega)).trans q2, attrsO_F (hBc _) (attrsO_keeps ha (kc _ (by omega)))⟩, (hc _ (by omega)).trans q3, (hc _ (by omega)).trans q4, (hc _ (by omega)).trans q5⟩,
        v, (hc _ (by omega)).trans q6, liesO_F (hBc _) (liesO_keeps hk (kc _ (by omega)))⟩
/- a block that holds a slice holds no row. -/
theorem no_row {W : World} {G : Nat} {a : Option Addr} {n c : Nat} {T : TypeId} {fr : Nat × Nat} (hG : W.heap[G]? = some (.cells #[.slice a n c] T fr)) {o : Nat} {v : Value} (h : W.cell? ⟨G, o, none⟩ = some v) : v = .slice a n c := by
  have := cell_get hG h
  cases o with
  | zero => simpa using this.symm
  | succ o => simp at this
theorem far_cell {W : World} {G b : Nat} (h : b ≠ G) (o : Nat) (u : Value) : (W.setCell ⟨G, 0, none⟩ u).cell? ⟨b, o, none⟩ = W.cell? ⟨b, o, none⟩ := World.cell?_of_block (w := W) (set_far h)
theorem attrsF_far {B : Nat} {W : World} {G : Nat} {a : Option Addr} {n c : Nat} {T : TypeId} {fr : Nat × Nat} (hG : W.heap[G]? = some (.cells #[.slice a n c] T fr)) (u : Value) {v : Value} {l : List (List UInt8 × List UInt8)} (h : AttrsF B W v l) : AttrsF B (W.setCell ⟨G, 0, none⟩ u) v l := by
  rcases h with h | ⟨b, off, cap, h1, h0, h4, h5, h2, h3⟩
  · exact .inl h
  · refine .inr ⟨b, off, cap, h1, h0, h4, h5, by rw [set_size']; exact h2, fun k hk => ?_⟩
    obtain ⟨c1, c2⟩ := h3 k hk
    have hb : b ≠ G := by
      rintro rfl
      have := no_row hG c1
      cases this
    exact ⟨(far_cell hb _ u).trans c1, (far_cell hb _ u).trans c2⟩
theorem rowF_far {B : Nat} {W : World} {G : Nat} {a : Option Addr} {n c : Nat} {T : TypeId} {fr : Nat × Nat} (hG : W.heap[G]? = some (.cells #[.slice a n c] T fr)) (u : Value) : ∀ (f : Fo) (b o : Nat), RowF B W f b o → RowF B (W.setCell ⟨G, 0, none⟩ u) f b o
  | .nil, _, _, _ => trivial
  | .cons h ks r, b, o, H => by
    obtain ⟨⟨h0, h1, ⟨va, h2, ha⟩, h3, h4, h5⟩, ⟨v, h6, h7⟩, h8⟩ := H
    have hb : b ≠ G := by
      rintro rfl
      have := no_row hG h0
      cases this
    have hc := fun o => far_cell (W := W) hb o u
    refine ⟨⟨(hc _).trans h0, (hc _).trans h1, ⟨va, (hc _).trans h2, attrsF_far hG u ha⟩, (hc _).trans h3, (hc _).trans h4, (hc _).trans h5⟩, ⟨v, (hc _).trans h6, ?_⟩, rowF_far hG u r b (o + 7) h8⟩
    rcases h7 with h7 | ⟨b', o', cap, e, e0, e3, eB, e1, e2⟩
    · exact .inl h7
    · exact .inr ⟨b', o', cap, e, e0, e3, eB, by rw [set_size']; exact e1, rowF_far hG u ks b' o' e2⟩
theorem liesF_far {B : Nat} {W : World} {G : Nat} {a : Option Addr} {n c : Nat} {T : TypeId} {fr : Nat × Nat} (hG : W.heap[G]? = some (.cells #[.slice a n c] T fr)) (u : Value) {v : Value} {f : Fo} (h : LiesF B W v f) : LiesF B (W.setCell ⟨G, 0, none⟩ u) v f := by
  rcases h with h | ⟨b, o, cap, h1, h0, h4, h5, h2, h3⟩
  · exact .inl h
  · exact .inr ⟨b, o, cap, h1, h0, h4, h5, by rw [set_size']; exact h2, rowF_far hG u f b o h3⟩
/-- what lies is stored at the place, and the forest that lies in block G has it there. -/
theorem Hole.store {W W7 : World} {G pb po Bg B0 : Nat} {Ig : Nat → Prop} {f : Fo} {pre : List Nat} {Cp : Array Value} {Tp : TypeId} {vg vN : Value} {gN : Fo} (H : Hole W G pb po Bg B0 Ig f pre)
    (hp : W.heap[pb]? = some (.cells Cp Tp (0, 0))) (hv : Cp[po]? = some vg) (hm : pb + 1 = Bg ∨ (po = 0 ∧ ∃ a n c, Cp = #[.slice a n c])) (hb : Below W.heap.size W W7) (hN : LiesF Bg W7 vN gN) :
    ∃ vt, (W7.setCell ⟨pb, po, none⟩ vN).cell? ⟨G, 0, none⟩ = some vt ∧ LiesF B0 (W7.setCell ⟨pb, po, none⟩ vN) vt (changeAt f pre gN) := by
  have hpl := blk_size hp
  have h7 := (hb.block pb hpl).trans hp
  have hset : (W7.setCell ⟨pb, po, none⟩ vN).heap[pb]? = some (.cells (Cp.setIfInBounds po vN) Tp (0, 0)) := set_block h7
  have hpo : po < Cp.size := (Array.getElem?_eq_some_iff.1 hv).1
  refine H _ vN gN (by rw [set_size']; exact hb.size) ?_ ?_ ?_ ?_
  · intro x hl _ hx
    exact (set_far hx).trans (hb.block x hl)
  · intro o ho
    unfold World.cell?
    simp [hset, hp, show ¬ po = o from fun e => ho e.symm]
  · refine cell_of_block hset ?_
    rw [Array.getElem?_setIfInBounds, if_pos rfl, if_pos hpo]
  · rcases hm with rfl | ⟨rfl, a, n, c, rfl⟩
    · exact liesF_keeps hN (Keeps.setCell _ (Nat.lt_succ_self _) _ _)
    · exact liesF_far h7 vN hN
theorem rowF_drop {B : Nat} {w : World} {b : Nat} : ∀ (i : Nat) (f : Fo) (o : Nat), RowF B w f b o → RowF B w (f.drop i) b (o + i * 7)
  | 0, f, o, h => by simpa [Fo.drop] using h
  | i + 1, .nil, o, h => trivial
  | i + 1, .cons hd ks r, o, h => by
    have := rowF_drop i r (o + 7) h.2.2
    rw [show o + 7 + i * 7 = o + (i + 1) * 7 by omega] at this
    exact this
theorem rowF_take {B : Nat} {w : World} {b : Nat} : ∀ (i : Nat) (f : Fo) (o : Nat), RowF B w f b o → RowF B w (f.take i) b o
  | 0, f, o, h => by simp [Fo.take, RowF]
  | i + 1, .nil, o, h => trivial
  | i + 1, .cons hd ks r, o, h => ⟨h.1, h.2.1, rowF_take i r (o + 7) h.2.2⟩
end Go.Proofs.YtcgedpfolloinaaGreat

namespace Go.Proofs.YtcgedpfolloinaaGreat
open Go.RowKit

theorem below_drewN' : ∀ (n B : Nat) (w : World), Below B w (w.drewN n) := fun _ _ _ => ⟨rfl, rfl, rfl, Nat.le_refl _, fun _ _ => rfl⟩
theorem take_size : ∀ (f : Fo) (i : Nat), (f.take i).size + (f.drop i).size = f.size := by
  intro f i
  rw [← Fo.size_app, Fo.take_app_drop]
theorem setK_size {f : Fo} {i : Nat} {h : Hd} {ks : Fo} (e : nth f i = some (h, ks)) (x : Fo) : (setK f i h x).size + ks.size = f.size + x.size := by
  have := take_size f i
  rw [drop_nth e] at this
  unfold setK
  rw [Fo.size_app]
  simp only [Fo.size] at this ⊢
  omega
theorem changeAt_size : ∀ (q : List Nat) (f : Fo) {g : Fo} (x : Fo), goTo f q = some g → (changeAt f q x).size + g.size = f.size + x.size
  | [], f, g, x, e => by cases e; simp only [changeAt]; omega
  | a :: q, f, g, x, e => by
    simp only [goTo, changeAt] at e ⊢
    cases hn : nth f a with
    | none => simp [hn] at e
    | some y =>
      rw [hn] at e
      have h1 := changeAt_size q y.2 x e
      have h2 := setK_size (h := y.1) (ks := y.2) hn (changeAt y.2 q x)
      simp only
      omega
theorem spl_size (g : Fo) (i n : Nat) (b : Fo) : (spl g i n b).size = (g.take i).size + b.size + (g.drop (i + n)).size := by
  unfold spl
  rw [Fo.size_app, Fo.size_app]
  omega
theorem drop_drop : ∀ (g : Fo) (i n : Nat), (g.drop i).drop n = g.drop (i + n)
  | .nil, i, n => by simp [Fo.drop_nil]
  | .cons h ks r, 0, n => by simp [Fo.drop]
  | .cons h ks r, i + 1, n => by
    rw [show i + 1 + n = (i + n) + 1 by omega]
    simp only [Fo.drop]
    exact drop_drop r i n
theorem spl_le (g : Fo) (i n : Nat) (b : Fo) : (spl g i n b).size ≤ g.size + b.size := by
  rw [spl_size]
  have h1 := take_size g i
  have h2 := take_size (g.drop i) n
  rw [drop_drop] at h2
  omega
theorem goTo_pre {g : Fo} : ∀ (p : List Nat) (i : Nat) (r : List Nat) (f : Fo), goTo f (p ++ i :: r) = some g → ∃ g' h ks, goTo f p = some g' ∧ nth g' i = some (h, ks)
  | [], i, r, f, e => by
    simp only [List.nil_append, goTo] at e
    cases hn : nth f i with
    | none => simp [hn] at e
    | some x => exact ⟨f, x.1, x.2, rfl, hn⟩
  | a :: p, i, r, f, e => by
    simp only [List.cons_append, goTo] at e ⊢
    cases hn : nth f a with
    | none => simp [hn] at e
    | some x =>
      rw [hn] at e
      exact goTo_pre p i r x.2 e

theorem take_getD3 {p : List Nat} {k : Nat} (hk : k < p.length) : p.take k ++ [p.getD k 0] = p.take (k + 1) := by
  rw [List.take_add_one, List.getD_eq_getElem?_getD, List.getElem?_eq_getElem hk]; rfl
theorem drop_getD3 {p : List Nat} {k : Nat} (hk : k < p.length) : p.drop k = p.getD k 0 :: p.drop (k + 1) := by
  rw [List.drop_eq_getElem_cons hk, List.getD_eq_getElem?_getD, List.getElem?_eq_getElem hk]; rfl
theorem goTo_size : ∀ (q : List Nat) (f : Fo) {g : Fo}, goTo f q = some g → g.size ≤ f.size
  | [], f, g, e => by cases e; exact Nat.le_refl _
  | a :: q, f, g, e => by
    simp only [goTo] at e
    cases hn : nth f a with
    | none => simp [hn] at e
    | some x =>
      rw [hn] at e
      have h1 := goTo_size q x.2 e
      have h2 := setK_size (h := x.1) (ks := x.2) hn .nil
      simp only [Fo.size] at h2
      omega
theorem rowF_F0 {B : Nat} {w : World} {f : Fo} {I : Nat → Prop} {own : Nat → Nat} {b : Nat} (hI : ∀ x, I x → B ≤ x) (H : RowO w f I own b 0) : RowF B w f b 0 := by
  have := rowO_F f I own b 0 hI H
  rwa [Nat.zero_mul] at this
/-- where a value of a slice of trees lies. -/
structure PlaceAt (W : World) (w0 G : Nat) (f : Fo) (pre : List Nat) (pb po Bg : Nat) (Ig : Nat → Prop) (Cp : Array Value) (Tp : TypeId) (a : Option Addr) (c : Nat) (g : Fo) : Prop where
  hole : Hole W G pb po Bg w0 Ig f pre
  goes : goTo f pre = some g
  not : ¬ Ig pb
  blk : W.heap[pb]? = some (.cells Cp Tp (0, 0))
  val : Cp[po]? = some (Value.slice a g.len c)
  lies : LiesO Ig W (.slice a g.len c) g
  low : ∀ x, Ig x → Bg ≤ x
  way : pb + 1 = Bg ∨ (po = 0 ∧ ∃ a n c, Cp = #[.slice a n c])
  ge : w0 ≤ pb
  bg : w0 ≤ Bg
  bgl : Bg ≤ W.heap.size

theorem PlaceAt.step {W : World} {w0 G : Nat} {f : Fo} {pre : List Nat} {pb po Bg : Nat} {Ig : Nat → Prop} {Cp : Array Value} {Tp : TypeId} {a : Option Addr} {c : Nat} {g : Fo} (P : PlaceAt W w0 G f pre pb po Bg Ig Cp Tp a c g) {i : Nat} {h : Hd} {ks : Fo} (hn : nth g i = some (h, ks)) :
    ∃ b own C ak ck, a = some ⟨b, 0, none⟩ ∧ b < W.heap.size ∧ g.len ≤ c ∧ g.len ≤ 2000000000000 ∧ W.cell? ⟨b, i * 7 + 6, none⟩ = some (Value.slice ak ks.len ck) ∧ PlaceAt W w0 G f (pre ++ [i]) b (i * 7 + 6) (b + 1) (cls Ig own b (2 * i + 1)) C 43 ak ck ks := by
  have hil := nth_lt hn
  rcases P.lies with ⟨_, _, e, rfl⟩ | ⟨b, cap, own, C, e, hcap, hlen, hI, hblk, hC, hrow⟩
  · simp [Fo.len] at hil
  · simp only [Value.slice.injEq, true_and] at e
    obtain ⟨rfl, rfl⟩ := e
    have hT := treesO_of g 0 hrow
    have hb := blk_size hblk
    have H' := hT i h ks hil (drop_nth hn)
    rw [Nat.zero_add] at H'
    obtain ⟨-, v, q6, hk⟩ := H'
    obtain ⟨ak, ck, rfl⟩ := liesO_form hk
    exact ⟨b, own, C, ak, ck, rfl, hb, hcap, hlen, q6, P.hole.step P.not (blk_size P.blk) P.low (cell_of_block P.blk P.val) hcap hlen hI hb hT P.goes hn, goTo_snoc pre f P.goes hn, fun hc => Nat.lt_irrefl _ hc.2.1, hblk, cell_get hblk q6, hk,
      fun x hx => hx.2.1, .inl rfl, Nat.le_trans P.bg (P.low b hI), Nat.le_trans P.bg (Nat.le_trans (P.low b hI) (Nat.le_succ _)), hb⟩

set_option maxRecDepth 100000 in
set_option maxHeartbeats 8000000 in
theorem splice_any (f : Fo) (q : List Nat) (i out : Nat) (g b : Fo) (v pv u : Value) (w : World) (hl : Lies w v f) (hp : IntsLie w pv (pathInts (q ++ [i]))) (hpl : q.length ≤ 1000000) (hu : Lies w u b) (hg : goTo f q = some g) (hi : i + out ≤ g.len) (hs : f.size ≤ 100000) (hsb : b.size ≤ 100000) :
    Calls Tryz.prog 105 #[v, pv, .int .i64 out, u] w (FoE w (inBnd (changeAt f q (spl g i out b)))) := by
  have CL := Lib.hid (fun W (hW : Below w.heap.size w W) => cloneO_any f.size f (Nat.le_refl _) v W (lies_below hl hW))
  have CB := Lib.hid (fun W (hW : Below w.heap.size w W) => clone_any b.size b (Nat.le_refl _) u W (lies_below hu hW))
  have hsz : (changeAt f q (spl g i out b)).size ≤ 1000000 := by
    have h1 := changeAt_size q f (spl g i out b) hg
    have h2 := spl_le g i out b
    omega
  have HP := Lib.hid hp
  have HG := Lib.hid hg
  obtain ⟨av, cv, rfl⟩ := lies_form hl
  obtain ⟨au, cu, rfl⟩ := lies_form hu
  obtain ⟨pb0, po0, pcap, rfl, hcp, hpb, hpc⟩ := ints_cells hp (by simp)
  clear hl hu hp hg
  simp only [List.length_map, List.length_append, List.length_cons, List.length_nil, Nat.zero_add] at hcp HP hpc ⊢
  have HPC := Lib.hid hpc
  clear hpc
  go_enter Tryz.func105, Tryz.ntmps105
  go_wp2_with fail
  refine (CL.out w (Below.refl _ _)).mono ?_
  rintro e X1 ⟨a1, c1, rfl, hO1, hb1⟩
  go_upto_region 2 with fail
  obtain ⟨W1, hW1⟩ : ∃ W1, X1.alloc (.cells #[.slice a1 f.len c1] 28) = W1 := ⟨_, rfl⟩
  have kk := World.alloc_heap_new X1 (.cells #[.slice a1 f.len c1] 28)
  have hbW : Below X1.heap.size X1 (X1.alloc (.cells #[.slice a1 f.len c1] 28)) := (Below.refl _ _).alloc (Nat.le_refl _) _
  have hsW : X1.heap.size < (X1.alloc (.cells #[.slice a1 f.len c1] 28)).heap.size := by simp
  rw [hW1] at kk hbW hsW
  rw [hW1]
  have B1 : Below w.heap.size w W1 := hb1.trans (hbW.mono hb1.size)
  have hsx := hb1.size
  have P0 : PlaceAt W1 w.heap.size X1.heap.size f [] X1.heap.size 0 w.heap.size (fun x => w.heap.size ≤ x ∧ x < X1.heap.size) #[.slice a1 f.len c1] 28 a1 c1 f :=
    ⟨.top _ _ _ _ _, rfl, fun h => Nat.lt_irrefl _ h.2, kk, rfl, liesO_keeps (liesO_mono (fun x hx hl => ⟨hx, hl⟩) hO1) (KeepsO.of_below hbW), fun x hx => hx.1, .inr ⟨rfl, _, _, _, rfl⟩, hsx, Nat.le_refl _, B1.size⟩
  have PP := Lib.hid P0
  have KG := Lib.hid kk
  clear P0 kk hO1 hb1 hbW hW1
  generalize X1.heap.size = G at *
  go_wp2_with fail
  go_loopw [11, 26] (fun lp i wr => wr = W1 ∧ ∃ (j pb po Bg : Nat) (Ig : Nat → Prop) (Cp : Array Value) (Tp : TypeId) (a : Option Addr) (c : Nat) (g' : Fo), i = .int .i64 j ∧ j ≤ q.length ∧ lp = .pointer (some ⟨pb, po, none⟩) ∧ PlaceAt W1 w.heap.size G f (q.take j) pb po Bg Ig Cp Tp a c g') (fun _ i _ => q.length - (intOf i).toNat)
  case atStart => exact ⟨rfl, 0, G, 0, _, _, _, _, a1, c1, f, rfl, Nat.zero_le _, rfl, PP.out⟩
  case round =>
    obtain ⟨rfl, j, pb, po, Bg, Ig, Cp, Tp, a, c, g', rfl, hj, rfl, hP⟩ := hrel
    have PQ := Lib.hid hP
    have c1' : wr.cell? ⟨pb, po, none⟩ = some (Value.slice a g'.len c) := cell_of_block hP.blk hP.val
    have f1' := frozen_of_block (o := po) hP.blk
    have hpb' := blk_size hP.blk
    clear hP PP
    by_cases hlt : j < q.length
    · have dk : decide (j < q.length) = true := by simpa using hlt
      have hq : q = q.take j ++ q.getD j 0 :: q.drop (j + 1) := by
        rw [← drop_getD3 hlt, List.take_append_drop]
      have hgo := HG.out
      rw [hq] at hgo
      obtain ⟨g2, h, ks, e1, e2⟩ := goTo_pre _ _ _ f hgo
      rw [PQ.out.goes] at e1
      cases e1
      have hil := nth_lt e2
      have HTK := Lib.hid (show q.take (j + 1) = q.take j ++ [q.getD j 0] by rw [← take_getD3 hlt])
      have c2' := (B1.cell (p := ⟨pb0, po0 + j, none⟩) hpb).trans (HPC.out j (by omega))
      rw [show (pathInts (q ++ [i])).getD j 0 = ((q.getD j 0 : Nat) : Int) by
        rw [List.getD_eq_getElem?_getD, List.getElem?_map, List.getElem?_append_left hlt, List.getElem?_eq_getElem hlt, List.getD_eq_getElem?_getD, List.getElem?_eq_getElem hlt]; rfl] at c2'
      have hpbr : pb0 < wr.heap.size := by have := B1.size; omega
      clear hgo hq
      generalize q.getD j 0 = m at *
      obtain ⟨b2, own, C, ak, ck, rfl, hb2, hcap, hlen, q6, hP2⟩ := PQ.out.step e2
      have P2 := Lib.hid hP2
      have dm : decide (m < g'.len) = true := by simpa using hil
      clear hP2 e2 q6
      go_wp2_with fail
      go_roundw
      case rel => exact ⟨trivial, j + 1, b2, m * 7 + 6, _, _, _, _, ak, ck, ks, by go_num, by omega, rfl, by rw [HTK.out]; exact P2.out⟩
      case measure => simp [intOf]; omega
    · have dk : decide (j < q.length) = false := by simpa using hlt
      obtain rfl : j = q.length := by omega
      have hP := PQ.out
      rw [List.take_length] at hP
      have e1 := hP.goes
      rw [HG.out] at e1
      cases e1
      have PR := Lib.hid hP
      have c2' := (B1.cell (p := ⟨pb0, po0 + q.length, none⟩) hpb).trans (HPC.out q.length (by omega))
      rw [show (pathInts (q ++ [i])).getD q.length 0 = (i : Int) by
        rw [List.getD_eq_getElem?_getD, List.getElem?_map, List.getElem?_append_right (Nat.le_refl _), Nat.sub_self]; rfl] at c2'
      have hpbr : pb0 < wr.heap.size := by have := B1.size; omega
      clear hP PQ
      obtain ⟨hgc, hg12⟩ : g.len ≤ c ∧ g.len ≤ 2000000000000 := by
        rcases PR.out.lies with ⟨_, _, e, rfl⟩ | ⟨_, _, _, _, e, h1, h2, -⟩
        · exact ⟨Nat.zero_le _, Nat.zero_le _⟩
        · simp only [Value.slice.injEq, true_and] at e
          obtain ⟨-, rfl⟩ := e
          exact ⟨h1, h2⟩
      have hgl0 : ∀ (a' : Option Addr) (n' c' : Nat) (k' : Fo), k'.len = n' → n' = 0 → LiesF Bg wr (.slice a' n' c') k' := by
        intro a' n' c' k' h1 h2
        subst h2
        exact .inl ⟨a', c', rfl, Fo.len_nil h1⟩
      cases a with
      | none =>
        have hg0 : g.len = 0 := by
          rcases PR.out.lies with ⟨_, _, e, rfl⟩ | ⟨_, _, _, _, e, -⟩
          · rfl
          · cases e
        have FF := Lib.hid (hgl0 none i c (g.take i) (len_take g i (by omega)) (by omega))
        have FB := Lib.hid (hgl0 none (g.len - (i + out)) (c - (i + out)) (g.drop (i + out)) (Fo.len_drop _ _) (by omega))
        clear hg0 hgl0
        go_upto_region 9 with fail
        obtain ⟨L1, hL1⟩ : ∃ n, q.length + 1 = n := ⟨_, rfl⟩
        rw [hL1]
        have dq : decide (q.length < L1) = true := by simp; omega
        go_quiet (fail)
        rename_i nq
        clear c1' f1' dq hL1 c2' HPC HP
        have B2 : Below w.heap.size w (wr.drewN nq) := B1.trans (below_drewN' nq _ _)
        have hbx : Below wr.heap.size wr (wr.drewN nq) := below_drewN' nq _ _
        generalize wr.drewN nq = W2 at *
        go_wp2_with fail
        refine (CB.out W2 B2).mono ?_
        rintro e X3 ⟨a3, c3, rfl, hF3, hb3⟩
        have B3 := B2.trans (hb3.mono B2.size)
        have hbx3 := hbx.trans (hb3.mono hbx.size)
        have HF3 := Lib.hid (liesF_mono (B' := Bg) (Nat.le_trans PR.out.bgl hbx.size) hF3)
        clear hF3 hb3 hbx B2
        go_wp2_with fail
        have kk := World.alloc_heap_new X3 (.cells #[.slice none i c, .slice a3 b.len c3, .slice none (g.len - (i + out)) (c - (i + out))] 28)
        have hba : Below X3.heap.size X3 (X3.alloc (.cells #[.slice none i c, .slice a3 b.len c3, .slice none (g.len - (i + out)) (c - (i + out))] 28)) := (Below.refl _ _).alloc (Nat.le_refl _) _
        have hsa : X3.heap.size < (X3.alloc (.cells #[.slice none i c, .slice a3 b.len c3, .slice none (g.len - (i + out)) (c - (i + out))] 28)).heap.size := by simp
        generalize X3.alloc (.cells #[.slice none i c, .slice a3 b.len c3, .slice none (g.len - (i + out)) (c - (i + out))] 28) = W4 at *
        have B4 := B3.trans (hba.mono B3.size)
        have hbx4 := hbx3.trans (hba.mono hbx3.size)
        have HS := Lib.hid (show SlicesAt Bg W4 X3.heap.size [g.take i, b, g.drop (i + out)] from ⟨hsa, fun k hk => by
          match k, hk with
          | 0, _ => exact ⟨none, c, by show _ = some (Value.slice none (g.take i).len c); rw [len_take g i (by omega)]; exact cell_of_block kk rfl, by show LiesF Bg W4 (.slice none (g.take i).len c) (g.take i); rw [len_take g i (by omega)]; exact liesF_keeps FF.out (Keeps.of_below hbx4)⟩
          | 1, _ => exact ⟨a3, c3, cell_of_block kk rfl, liesF_keeps HF3.out (Keeps.of_below hba)⟩
          | 2, _ => exact ⟨none, c - (i + out), by show _ = some (Value.slice none (g.drop (i + out)).len (c - (i + out))); rw [Fo.len_drop]; exact cell_of_block kk rfl, by show LiesF Bg W4 (.slice none (g.drop (i + out)).len (c - (i + out))) (g.drop (i + out)); rw [Fo.len_drop]; exact liesF_keeps FB.out (Keeps.of_below hbx4)⟩⟩)
        have hcat : catF [g.take i, b, g.drop (i + out)] = spl g i out b := by simp only [catF, spl, app_nil]
        have hgs := goTo_size q f HG.out
        have hspl := spl_le g i out b
        have CT := Lib.hid (concatT_any [g.take i, b, g.drop (i + out)] X3.heap.size Bg W4 (Nat.le_trans PR.out.bgl hbx4.size) HS.out (by simp) (by rw [hcat]; have := len_size (spl g i out b); omega))
        rw [hcat] at CT
        clear kk hba hsa HS hcat HF3 FF FB hbx3 B3 hgs hspl
        refine CT.out.mono ?_
        rintro e X5 ⟨a5, c5, rfl, hF5, hb5⟩
        have B5 := B4.trans (hb5.mono B4.size)
        have hbx5 := hbx4.trans (hb5.mono hbx4.size)
        have hblk5 := (hbx5.block pb hpb').trans PR.out.blk
        have c1' : X5.cell? ⟨pb, po, none⟩ = some (Value.slice none g.len c) := cell_of_block hblk5 PR.out.val
        have f1' := frozen_of_block (o := po) hblk5
        obtain ⟨vt, ht, hlt5⟩ := PR.out.hole.store PR.out.blk PR.out.val PR.out.way hbx5 hF5
        obtain ⟨at', ct, rfl⟩ := liesF_form hlt5
        have HLT := Lib.hid hlt5
        have HT := Lib.hid ht
        have B6 := Lib.hid (B5.setCell (p := ⟨pb, po, none⟩) PR.out.ge (.slice a5 (spl g i out b).len c5))
        clear hblk5 hb5 hF5 hlt5 ht hbx4 B4 hbx5 B5
        go_upto_region 11 with fail
        have h6 := HT.out
        have HL6 := Lib.hid HLT.out
        have B6' := B6.out
        generalize X5.setCell ⟨pb, po, none⟩ (.slice a5 (spl g i out b).len c5) = X6 at *
        clear HLT HT B6
        generalize changeAt f q (spl g i out b) = R at *
        have WI := Lib.hid (within_any R at' ct X6 (liesF_lies HL6.out) hsz)
        by_cases hbd : bndErr R = 0
        · have EX := Lib.hid (show inBnd R = (R, 0) by unfold inBnd; rw [if_pos hbd])
          rw [hbd, if_pos rfl] at WI
          clear hbd
          go_wp2_with fail
          refine WI.out.mono ?_
          rintro e w8 ⟨rfl, hb8⟩
          have HL8 := Lib.hid (liesF_keeps HL6.out (Keeps.of_below hb8 : Keeps w.heap.size X6 w8))
          have B8 := Lib.hid (B6'.trans (hb8.mono B6'.size))
          clear hb8
          go_wp2_with fail
          go_ret2
          rw [EX.out]
          exact ⟨_, rfl, HL8.out, B8.out⟩
        · have EX := Lib.hid (show inBnd R = (.nil, bndErr R) by unfold inBnd; rw [if_neg hbd])
          rw [if_neg hbd] at WI
          clear hbd
          go_wp2_with fail
          refine WI.out.mono ?_
          rintro e w8 ⟨rfl, hb8⟩
          have B8 := Lib.hid (B6'.trans (hb8.mono B6'.size))
          clear hb8
          go_wp2_with fail
          go_ret2
          rw [EX.out]
          exact ⟨.slice none 0 0, rfl, .inl ⟨_, _, rfl, rfl⟩, B8.out⟩
      | some ad =>
        have hfb : LiesF Bg wr (.slice (some ad) i c) (g.take i) ∧ LiesF Bg wr (.slice (if c = i + out then some ad else some (ad.add ((i + out) * 7))) (g.len - (i + out)) (c - (i + out))) (g.drop (i + out)) := by
          rcases PR.out.lies with ⟨_, _, e, rfl⟩ | ⟨b0, cap, own, C, e, h1, h2, h3, h4, h5, h6⟩
          · simp only [Fo.len] at hi ⊢
            exact ⟨hgl0 _ _ _ _ (len_take .nil i (by simp only [Fo.len]; omega)) (by omega), hgl0 _ _ _ _ (by rw [Fo.drop_nil]; simp only [Fo.len]; omega) (by omega)⟩
          · simp only [Value.slice.injEq, Option.some.injEq, true_and] at e
            obtain ⟨rfl, rfl⟩ := e
            have hr := rowF_F0 PR.out.low h6
            refine ⟨.inr ⟨b0, 0, c, by rw [len_take g i (by omega)], by rw [len_take g i (by omega)]; omega, by rw [len_take g i (by omega)]; omega, PR.out.low b0 h3, blk_size h4, rowF_take i g 0 hr⟩, ?_⟩
            by_cases hz : g.len - (i + out) = 0
            · exact hgl0 _ _ _ _ (Fo.len_drop _ _) hz
            · rw [if_neg (by omega)]
              refine .inr ⟨b0, 0 + (i + out) * 7, c - (i + out), by rw [Fo.len_drop, Go.WideShapes.add_plain], by rw [Fo.len_drop]; omega, by rw [Fo.len_drop]; omega, PR.out.low b0 h3, blk_size h4, rowF_drop (i + out) g 0 hr⟩
        have FF := Lib.hid hfb.1
        have FB := Lib.hid hfb.2
        clear hfb hgl0
        go_upto_region 9 with fail
        obtain ⟨L1, hL1⟩ : ∃ n, q.length + 1 = n := ⟨_, rfl⟩
        rw [hL1]
        have dq : decide (q.length < L1) = true := by simp; omega
        go_quiet (fail)
        rename_i nq
        generalize (if c = i + out then some ad else some (ad.add ((i + out) * 7)) : Option Addr) = aB at *
        clear c1' f1' dq hL1 c2' HPC HP
        have B2 : Below w.heap.size w (wr.drewN nq) := B1.trans (below_drewN' nq _ _)
        have hbx : Below wr.heap.size wr (wr.drewN nq) := below_drewN' nq _ _
        generalize wr.drewN nq = W2 at *
        go_wp2_with fail
        refine (CB.out W2 B2).mono ?_
        rintro e X3 ⟨a3, c3, rfl, hF3, hb3⟩
        have B3 := B2.trans (hb3.mono B2.size)
        have hbx3 := hbx.trans (hb3.mono hbx.size)
        have HF3 := Lib.hid (liesF_mono (B' := Bg) (Nat.le_trans PR.out.bgl hbx.size) hF3)
        clear hF3 hb3 hbx B2
        go_wp2_with fail
        have kk := World.alloc_heap_new X3 (.cells #[.slice (some ad) i c, .slice a3 b.len c3, .slice aB (g.len - (i + out)) (c - (i + out))] 28)
        have hba : Below X3.heap.size X3 (X3.alloc (.cells #[.slice (some ad) i c, .slice a3 b.len c3, .slice aB (g.len - (i + out)) (c - (i + out))] 28)) := (Below.refl _ _).alloc (Nat.le_refl _) _
        have hsa : X3.heap.size < (X3.alloc (.cells #[.slice (some ad) i c, .slice a3 b.len c3, .slice aB (g.len - (i + out)) (c - (i + out))] 28)).heap.size := by simp
        generalize X3.alloc (.cells #[.slice (some ad) i c, .slice a3 b.len c3, .slice aB (g.len - (i + out)) (c - (i + out))] 28) = W4 at *
        have B4 := B3.trans (hba.mono B3.size)
        have hbx4 := hbx3.trans (hba.mono hbx3.size)
        have HS := Lib.hid (show SlicesAt Bg W4 X3.heap.size [g.take i, b, g.drop (i + out)] from ⟨hsa, fun k hk => by
          match k, hk with
          | 0, _ => exact ⟨(some ad), c, by show _ = some (Value.slice (some ad) (g.take i).len c); rw [len_take g i (by omega)]; exact cell_of_block kk rfl, by show LiesF Bg W4 (.slice (some ad) (g.take i).len c) (g.take i); rw [len_take g i (by omega)]; exact liesF_keeps FF.out (Keeps.of_below hbx4)⟩
          | 1, _ => exact ⟨a3, c3, cell_of_block kk rfl, liesF_keeps HF3.out (Keeps.of_below hba)⟩
          | 2, _ => exact ⟨aB, c - (i + out), by show _ = some (Value.slice aB (g.drop (i + out)).len (c - (i + out))); rw [Fo.len_drop]; exact cell_of_block kk rfl, by show LiesF Bg W4 (.slice aB (g.drop (i + out)).len (c - (i + out))) (g.drop (i + out)); rw [Fo.len_drop]; exact liesF_keeps FB.out (Keeps.of_below hbx4)⟩⟩)
        have hcat : catF [g.take i, b, g.drop (i + out)] = spl g i out b := by simp only [catF, spl, app_nil]
        have hgs := goTo_size q f HG.out
        have hspl := spl_le g i out b
        have CT := Lib.hid (concatT_any [g.take i, b, g.drop (i + out)] X3.heap.size Bg W4 (Nat.le_trans PR.out.bgl hbx4.size) HS.out (by simp) (by rw [hcat]; have := len_size (spl g i out b); omega))
        rw [hcat] at CT
        clear kk hba hsa HS hcat HF3 FF FB hbx3 B3 hgs hspl
        refine CT.out.mono ?_
        rintro e X5 ⟨a5, c5, rfl, hF5, hb5⟩
        have B5 := B4.trans (hb5.mono B4.size)
        have hbx5 := hbx4.trans (hb5.mono hbx4.size)
        have hblk5 := (hbx5.block pb hpb').trans PR.out.blk
        have c1' : X5.cell? ⟨pb, po, none⟩ = some (Value.slice (some ad) g.len c) := cell_of_block hblk5 PR.out.val
        have f1' := frozen_of_block (o := po) hblk5
        obtain ⟨vt, ht, hlt5⟩ := PR.out.hole.store PR.out.blk PR.out.val PR.out.way hbx5 hF5
        obtain ⟨at', ct, rfl⟩ := liesF_form hlt5
        have HLT := Lib.hid hlt5
        have HT := Lib.hid ht
        have B6 := Lib.hid (B5.setCell (p := ⟨pb, po, none⟩) PR.out.ge (.slice a5 (spl g i out b).len c5))
        clear hblk5 hb5 hF5 hlt5 ht hbx4 B4 hbx5 B5
        go_upto_region 11 with fail
        have h6 := HT.out
        have HL6 := Lib.hid HLT.out
        have B6' := B6.out
        generalize X5.setCell ⟨pb, po, none⟩ (.slice a5 (spl g i out b).len c5) = X6 at *
        clear HLT HT B6
        generalize changeAt f q (spl g i out b) = R at *
        have WI := Lib.hid (within_any R at' ct X6 (liesF_lies HL6.out) hsz)
        by_cases hbd : bndErr R = 0
        · have EX := Lib.hid (show inBnd R = (R, 0) by unfold inBnd; rw [if_pos hbd])
          rw [hbd, if_pos rfl] at WI
          clear hbd
          go_wp2_with fail
          refine WI.out.mono ?_
          rintro e w8 ⟨rfl, hb8⟩
          have HL8 := Lib.hid (liesF_keeps HL6.out (Keeps.of_below hb8 : Keeps w.heap.size X6 w8))
          have B8 := Lib.hid (B6'.trans (hb8.mono B6'.size))
          clear hb8
          go_wp2_with fail
          go_ret2
          rw [EX.out]
          exact ⟨_, rfl, HL8.out, B8.out⟩
        · have EX := Lib.hid (show inBnd R = (.nil, bndErr R) by unfold inBnd; rw [if_neg hbd])
          rw [if_neg hbd] at WI
          clear hbd
          go_wp2_with fail
          refine WI.out.mono ?_
          rintro e w8 ⟨rfl, hb8⟩
          have B8 := Lib.hid (B6'.trans (hb8.mono B6'.size))
          clear hb8
          go_wp2_with fail
          go_ret2
          rw [EX.out]
          exact ⟨.slice none 0 0, rfl, .inl ⟨_, _, rfl, rfl⟩, B8.out⟩
end Go.Proofs.YtcgedpfolloinaaGreat

namespace Go.Proofs.YtcgedpfolloinaaGreat
open Go.RowKit

/-- n trees from the place at a path on are others. -/
def changeF : Fo → List Nat → Nat → Fo → Fo
  | f, [], _, _ => f
  | f, [i], n, b => spl f i n b
  | f, i :: j :: p, n, b => match nth f i with
    | some (h, ks) => setK f i h (changeF ks (j :: p) n b)
    | none => f
theorem changeF_at : ∀ (q : List Nat) (f : Fo) {g : Fo} (i n : Nat) (b : Fo), goTo f q = some g → changeF f (q ++ [i]) n b = changeAt f q (spl g i n b)
  | [], f, g, i, n, b, e => by cases e; rfl
  | [a], f, g, i, n, b, e => by
    simp only [goTo] at e
    cases hn : nth f a with
    | none => simp [hn] at e
    | some x =>
      rw [hn] at e
      cases e
      simp [changeF, changeAt, hn]
  | a :: a2 :: q, f, g, i, n, b, e => by
    rw [goTo] at e
    cases hn : nth f a with
    | none => simp [hn] at e
    | some x =>
      rw [hn] at e
      have := changeF_at (a2 :: q) x.2 i n b e
      simp only [List.cons_append] at this ⊢
      rw [changeF, changeAt, hn]
      simp only
      rw [this]
theorem place_nat : ∀ (p : List Int) (f : Fo) (x : Hd × Fo), placeF f p = some x → p = pathInts (p.map Int.toNat)
  | [], f, x, e => by cases f <;> cases e
  | i :: p, f, x, e => by
    rw [placeF] at e
    by_cases hi : i < 0
    · rw [if_pos hi] at e; cases e
    · rw [if_neg hi] at e
      have e1 : ((i.toNat : Nat) : Int) = i := by omega
      cases hd : f.drop i.toNat with
      | nil => rw [hd] at e; cases e
      | cons h ks r =>
        rw [hd] at e
        simp only [List.map_cons, e1]
        by_cases hp : p = []
        · subst hp; rfl
        · have e' : placeF ks p = some x := by simpa [hp] using e
          have := place_nat p ks x e'
          exact congrArg (i :: ·) this
theorem place_go : ∀ (q : List Nat) (f : Fo) {h : Hd} {ks : Fo}, placeF f (pathInts q) = some (h, ks) → goTo f q = some ks
  | [], f, h, ks, e => by cases f <;> cases e
  | i :: q, f, h, ks, e => by
    rw [place_nth] at e
    cases hn : nth f i with
    | none => rw [hn] at e; cases e
    | some x =>
      obtain ⟨h', ks'⟩ := x
      rw [hn] at e
      simp only [goTo, hn]
      cases q with
      | nil =>
        simp only [if_true, Option.some.injEq, Prod.mk.injEq] at e
        obtain ⟨rfl, rfl⟩ := e
        rfl
      | cons a q => exact place_go (a :: q) ks' (by simpa using e)
theorem place_last : ∀ (q : List Nat) (i : Nat) (f : Fo) {x : Hd × Fo}, placeF f (pathInts (q ++ [i])) = some x → ∃ g, goTo f q = some g ∧ nth g i = some x
  | [], i, f, x, e => by
    rw [List.nil_append, place_nth] at e
    cases hn : nth f i with
    | none => rw [hn] at e; cases e
    | some y => obtain ⟨h', ks'⟩ := y; rw [hn] at e; exact ⟨f, rfl, by rw [hn]; simpa using e⟩
  | a :: q, i, f, x, e => by
    rw [List.cons_append, place_nth] at e
    cases hn : nth f a with
    | none => rw [hn] at e; cases e
    | some y =>
      obtain ⟨h', ks'⟩ := y
      rw [hn] at e
      obtain ⟨g, h1, h2⟩ := place_last q i ks' (x := x) (by simpa using e)
      exact ⟨g, by simp only [goTo, hn]; exact h1, h2⟩
theorem go_place : ∀ (q : List Nat) (i : Nat) (f : Fo) {g : Fo} {x : Hd × Fo}, goTo f q = some g → nth g i = some x → placeF f (pathInts (q ++ [i])) = some x
  | [], i, f, g, x, e, e2 => by
    cases e
    rw [List.nil_append, place_nth, e2]
    obtain ⟨h', ks'⟩ := x
    simp
  | a :: q, i, f, g, x, e, e2 => by
    rw [goTo] at e
    rw [List.cons_append, place_nth]
    cases hn : nth f a with
    | none => simp [hn] at e
    | some y =>
      rw [hn] at e
      have := go_place q i y.2 e e2
      obtain ⟨h', ks'⟩ := y
      simpa using this
theorem snoc_of {α : Type} : ∀ (p : List α), p ≠ [] → ∃ q i, p = q ++ [i]
  | [], h => absurd rfl h
  | [a], _ => ⟨[], a, rfl⟩
  | a :: b :: p, _ => by
    obtain ⟨q, i, e⟩ := snoc_of (b :: p) (by simp)
    exact ⟨a :: q, i, by rw [e]; rfl⟩
/-- where something can be put, or cut. -/
theorem place_cut {f : Fo} {p : List Int} (h : placeErr f p = 0) : ∃ q i g, p = pathInts (q ++ [i]) ∧ p.map Int.toNat = q ++ [i] ∧ goTo f q = some g ∧ i + 1 ≤ g.len := by
  unfold placeErr at h
  by_cases hp : p = []
  · rw [if_pos hp] at h; cases h
  · rw [if_neg hp] at h
    cases hx : placeF f p with
    | none => rw [hx] at h; cases h
    | some x =>
      have hn := place_nat p f x hx
      obtain ⟨q, i, e⟩ := snoc_of (p.map Int.toNat) (by simpa using hp)
      rw [e] at hn
      rw [hn] at hx
      obtain ⟨g, h1, h2⟩ := place_last q i f hx
      exact ⟨q, i, g, hn, e, h1, nth_lt h2⟩
theorem forest_go {f : Fo} {p : List Int} {g : Fo} (h : forestV f p = (g, 0)) : p = pathInts (p.map Int.toNat) ∧ goTo f (p.map Int.toNat) = some g := by
  unfold forestV at h
  by_cases hp : p = []
  · subst hp
    rw [if_pos rfl] at h
    cases h
    exact ⟨rfl, rfl⟩
  · rw [if_neg hp] at h
    cases hx : placeF f p with
    | none => rw [hx] at h; cases h
    | some x =>
      obtain ⟨hd, ks⟩ := x
      rw [hx] at h
      have hn := place_nat p f _ hx
      refine ⟨hn, ?_⟩
      rw [hn] at hx
      simp only at h
      by_cases hk : hd.k ≠ 0
      · rw [if_pos hk] at h; cases h
      · rw [if_neg hk] at h
        cases h
        exact place_go _ f hx
theorem first_zero : ∀ {l : List Int}, firstNZ l = 0 → ∀ e ∈ l, e = 0
  | [], _, e, he => by cases he
  | a :: l, h, e, he => by
    rw [firstNZ] at h
    by_cases ha : a = 0
    · rw [if_neg (by simpa using ha)] at h
      rcases List.mem_cons.1 he with rfl | he
      · exact ha
      · exact first_zero h e he
    · rw [if_pos ha] at h; exact absurd h ha
def insU (f : Fo) (q : List Int) (x : Int) (t : Fo) : Fo × Int :=
  if (forestV f q).2 ≠ 0 then (.nil, (forestV f q).2) else if x < 0 ∨ ((forestV f q).1.len : Int) < x then (.nil, 6) else inBnd (changeF f ((q ++ [x]).map Int.toNat) 0 t)
def insV (f : Fo) (p : List Int) (t : Fo) : Fo × Int :=
  if firstNZ [foErr f, foErr t] = 0 then (if p = [] then (.nil, 10) else insU f p.dropLast (p.getLastD 0) t) else (.nil, firstNZ [foErr f, foErr t])
def cutV (f : Fo) (p : List Int) : Fo × Int :=
  if firstNZ [foErr f, placeErr f p] = 0 then inBnd (changeF f (p.map Int.toNat) 1 .nil) else (.nil, firstNZ [foErr f, placeErr f p])
theorem insU_there {f g : Fo} {q : List Int} {x : Int} {t : Fo} (h : forestV f q = (g, 0)) (hx : ¬ (x < 0 ∨ (g.len : Int) < x)) :
    insU f q x t = inBnd (changeAt f (q.map Int.toNat) (spl g x.toNat 0 t)) ∧ q ++ [x] = pathInts (q.map Int.toNat ++ [x.toNat]) ∧ goTo f (q.map Int.toNat) = some g ∧ x.toNat ≤ g.len := by
  obtain ⟨h1, h2⟩ := forest_go h
  refine ⟨?_, ?_, h2, by omega⟩
  · unfold insU
    rw [h]
    simp only
    rw [if_neg (by simp), if_neg hx, List.map_append, List.map_cons, List.map_nil, changeF_at _ f _ _ _ h2]
  · have e1 : ((x.toNat : Nat) : Int) = x := by omega
    simp only [List.map_append, List.map_cons, List.map_nil, e1]
    exact congrArg (· ++ [x]) h1
end Go.Proofs.YtcgedpfolloinaaGreat

namespace Go.Proofs.YtcgedpfolloinaaGreat
open Go.RowKit

theorem goTo_change : ∀ (q : List Nat) (f : Fo) {g : Fo} (X : Fo), goTo f q = some g → goTo (changeAt f q X) q = some X
  | [], f, g, X, _ => rfl
  | a :: q, f, g, X, e => by
    rw [goTo] at e
    cases hn : nth f a with
    | none => simp [hn] at e
    | some x =>
      rw [hn] at e
      rw [changeAt, hn]
      simp only
      rw [goTo, nth_setK (nth_lt hn), if_pos rfl]
      exact goTo_change q x.2 X e
theorem setK_setK {f : Fo} {i : Nat} (hi : i < f.len) (h h' : Hd) (x y : Fo) : setK (setK f i h x) i h' y = setK f i h' y := by
  refine fo_ext fun j => ?_
  rw [nth_setK (by rw [len_setK hi]; exact hi) h' y j, nth_setK hi h x j, nth_setK hi h' y j]
  by_cases hj : j = i
  · rw [if_pos hj, if_pos hj]
  · rw [if_neg hj, if_neg hj, if_neg hj]
theorem change_change : ∀ (q : List Nat) (f : Fo) {g : Fo} (X Y : Fo), goTo f q = some g → changeAt (changeAt f q X) q Y = changeAt f q Y
  | [], f, g, X, Y, _ => rfl
  | a :: q, f, g, X, Y, e => by
    rw [goTo] at e
    cases hn : nth f a with
    | none => simp [hn] at e
    | some x =>
      rw [hn] at e
      have e1 : changeAt f (a :: q) X = setK f a x.1 (changeAt x.2 q X) := by rw [changeAt, hn]
      have e2 : changeAt f (a :: q) Y = setK f a x.1 (changeAt x.2 q Y) := by rw [changeAt, hn]
      rw [e1, e2, changeAt, nth_setK (nth_lt hn), if_pos rfl]
      simp only
      rw [setK_setK (nth_lt hn), change_change q x.2 X Y e]
theorem heads_cut (f : Fo) (i : Nat) : headsErr f = 0 ↔ headsErr (f.take i) = 0 ∧ headsErr (f.drop i) = 0 := by
  rw [← heads_app2, Fo.take_app_drop]
theorem heads_setK {f : Fo} {i : Nat} {h : Hd} {ks : Fo} (hn : nth f i = some (h, ks)) (x : Fo) (hf : headsErr f = 0) (hx : headsErr x = 0) (hk : h.k = 0 ∨ x.len = 0) : headsErr (setK f i h x) = 0 := by
  obtain ⟨h1, h2⟩ := (heads_cut f i).1 hf
  rw [drop_nth hn] at h2
  obtain ⟨h3, -, -, h4⟩ := heads_zero.1 h2
  unfold setK
  refine heads_app2.2 ⟨h1, heads_zero.2 ⟨h3, ?_, hx, h4⟩⟩
  rintro ⟨a, b⟩
  rcases hk with h | h
  · exact a h
  · exact b h
/-- the elements around a place. -/
def ownsOk : Fo → List Nat → Prop
  | _, [] => True
  | f, i :: q => ∃ h ks, nth f i = some (h, ks) ∧ h.k = 0 ∧ ownsOk ks q
theorem heads_change : ∀ (q : List Nat) (f : Fo) (X : Fo), ownsOk f q → headsErr f = 0 → headsErr X = 0 → headsErr (changeAt f q X) = 0
  | [], _, _, _, _, h => h
  | a :: q, f, X, ⟨h, ks, hn, hk, ho⟩, hf, hX => by
    rw [changeAt, hn]
    exact heads_setK hn _ hf (heads_change q ks X ho (nth_heads hn hf).2.2 hX) (.inl hk)
theorem owns_go : ∀ (q : List Nat) (f : Fo) {g : Fo}, goTo f q = some g → g.len ≠ 0 → headsErr f = 0 → ownsOk f q
  | [], _, _, _, _, _ => trivial
  | a :: q, f, g, e, hg, hf => by
    rw [goTo] at e
    cases hn : nth f a with
    | none => simp [hn] at e
    | some x =>
      obtain ⟨h, ks⟩ := x
      rw [hn] at e
      obtain ⟨-, h2, h3⟩ := nth_heads hn hf
      refine ⟨h, ks, hn, ?_, owns_go q ks e hg h3⟩
      by_cases hk : h.k = 0
      · exact hk
      · exfalso
        refine h2 ⟨hk, ?_⟩
        cases q with
        | nil => cases e; exact hg
        | cons b q =>
          simp only [goTo] at e
          cases hb : nth ks b with
          | none => simp [hb] at e
          | some y => have := nth_lt hb; omega
theorem owns_change : ∀ (q : List Nat) (f X : Fo), ownsOk f q → ownsOk (changeAt f q X) q
  | [], _, _, _ => trivial
  | a :: q, f, X, ⟨h, ks, hn, hk, ho⟩ => by
    rw [changeAt, hn]
    exact ⟨h, _, by rw [nth_setK (nth_lt hn), if_pos rfl], hk, owns_change q ks X ho⟩
theorem forest_owns : ∀ (q : List Nat) (f : Fo) {g : Fo}, goTo f q = some g → ownsOk f q → forestV f (pathInts q) = (g, 0)
  | [], f, g, e, _ => by cases e; rfl
  | a :: q, f, g, e, ho => by
    obtain ⟨qq, i, eq⟩ := snoc_of (a :: q) (by simp)
    rw [eq] at e ho ⊢
    obtain ⟨g0, h, ks, hk, h1, h2, h3⟩ : ∃ g0 h ks, h.k = 0 ∧ goTo f qq = some g0 ∧ nth g0 i = some (h, ks) ∧ g = ks := by
      clear eq
      induction qq generalizing f with
      | nil =>
        obtain ⟨h, ks, hn, hk, -⟩ := ho
        simp only [List.nil_append, goTo, hn] at e
        cases e
        exact ⟨f, h, _, hk, rfl, hn, rfl⟩
      | cons b qq ih =>
        obtain ⟨h, ks, hn, hk, ho⟩ := ho
        rw [List.cons_append, goTo, hn] at e
        have e' : goTo ks (qq ++ [i]) = some g := e
        obtain ⟨g0, h', ks', k1, k2, k3, k4⟩ := ih (f := ks) ho e'
        exact ⟨g0, h', ks', k1, by rw [goTo, hn]; exact k2, k3, k4⟩
    have hp := go_place qq i f h1 h2
    unfold forestV
    rw [if_neg (by simp), hp]
    simp only
    rw [if_neg (by simpa using hk), h3]
theorem deep_take (f : Fo) (i : Nat) : f.deep = max (f.take i).deep (f.drop i).deep := by
  rw [← deep_app, Fo.take_app_drop]
theorem setK_deep {f : Fo} {i : Nat} {h : Hd} {ks : Fo} (hn : nth f i = some (h, ks)) (x : Fo) (hx : x.deep ≤ ks.deep) : (setK f i h x).deep ≤ f.deep := by
  have h1 := deep_take f i
  rw [drop_nth hn] at h1
  unfold setK
  rw [deep_app]
  simp only [Fo.deep] at h1 ⊢
  omega
theorem change_deep : ∀ (q : List Nat) (f : Fo) {g : Fo} (X : Fo), goTo f q = some g → X.deep ≤ g.deep → (changeAt f q X).deep ≤ f.deep
  | [], f, g, X, e, h => by cases e; exact h
  | a :: q, f, g, X, e, h => by
    rw [goTo] at e
    cases hn : nth f a with
    | none => simp [hn] at e
    | some x =>
      rw [hn] at e
      rw [changeAt, hn]
      exact setK_deep (h := x.1) (ks := x.2) hn _ (change_deep q x.2 X e h)
/- splices. -/
theorem nth_spl {g : Fo} {i : Nat} (hi : i ≤ g.len) (n : Nat) (b : Fo) (j : Nat) : nth (spl g i n b) j = if j < i then nth g j else if j < i + b.len then nth b (j - i) else nth g (j - b.len + n) := by
  unfold spl
  rw [nth_app, len_take g i hi, nth_take]
  by_cases h1 : j < i
  · rw [if_pos h1, if_pos h1, if_pos h1]
  · rw [if_neg h1, if_neg h1, nth_app]
    by_cases h2 : j < i + b.len
    · rw [if_pos (by omega), if_pos h2]
    · rw [if_neg (by omega), if_neg h2, nth_dropped]
      congr 1
      omega
theorem spl_len {g : Fo} {i n : Nat} (hi : i + n ≤ g.len) (b : Fo) : (spl g i n b).len = g.len - n + b.len := by
  unfold spl
  rw [Fo.len_app, Fo.len_app, len_take g i (by omega), Fo.len_drop]
  omega
theorem spl_here {g : Fo} {i : Nat} (hi : i ≤ g.len) (n : Nat) (h : Hd) (ks : Fo) : nth (spl g i n (.cons h ks .nil)) i = some (h, ks) := by
  rw [nth_spl hi, if_neg (Nat.lt_irrefl _), if_pos (by simp [Fo.len]), Nat.sub_self]; rfl
theorem spl_back1 {g : Fo} {i : Nat} {h : Hd} {ks : Fo} (hn : nth g i = some (h, ks)) : spl (spl g i 1 .nil) i 0 (.cons h ks .nil) = g := by
  have hi := nth_lt hn
  have hl : (spl g i 1 .nil).len = g.len - 1 := spl_len (g := g) (i := i) (n := 1) (by omega) .nil
  refine fo_ext fun j => ?_
  rw [nth_spl (by omega)]
  by_cases h1 : j < i
  · rw [if_pos h1, nth_spl (by omega), if_pos h1]
  · rw [if_neg h1]
    by_cases h2 : j < i + 1
    · obtain rfl : j = i := by omega
      rw [if_pos (show j < j + (Fo.cons h ks .nil).len from Nat.lt_succ_self j), Nat.sub_self, hn]; rfl
    · rw [if_neg (show ¬ j < i + (Fo.cons h ks .nil).len from h2), nth_spl (by omega), if_neg (show ¬ j - (Fo.cons h ks .nil).len + 0 < i from (show ¬ j - 1 + 0 < i by omega)), if_neg (show ¬ j - (Fo.cons h ks .nil).len + 0 < i + Fo.nil.len from (show ¬ j - 1 + 0 < i + 0 by omega))]
      exact congrArg (nth g) (show j - 1 + 0 - 0 + 1 = j by omega)
theorem spl_back2 {g : Fo} {i : Nat} (hi : i ≤ g.len) (h : Hd) (ks : Fo) : spl (spl g i 0 (.cons h ks .nil)) i 1 .nil = g := by
  have hl : (spl g i 0 (.cons h ks .nil)).len = g.len - 0 + 1 := spl_len (g := g) (i := i) (n := 0) (by omega) (.cons h ks .nil)
  refine fo_ext fun j => ?_
  rw [nth_spl (by omega)]
  by_cases h1 : j < i
  · rw [if_pos h1, nth_spl hi, if_pos h1]
  · rw [if_neg h1, if_neg (show ¬ j < i + Fo.nil.len from (show ¬ j < i + 0 by omega)), nth_spl hi, if_neg (show ¬ j - Fo.nil.len + 1 < i from (show ¬ j - 0 + 1 < i by omega)), if_neg (show ¬ j - Fo.nil.len + 1 < i + (Fo.cons h ks .nil).len from (show ¬ j - 0 + 1 < i + 1 by omega))]
    exact congrArg (nth g) (show j - 0 + 1 - 1 + 0 = j by omega)
theorem spl_heads {g : Fo} {i n : Nat} {b : Fo} (hg : headsErr g = 0) (hb : headsErr b = 0) : headsErr (spl g i n b) = 0 := by
  unfold spl
  exact heads_app2.2 ⟨((heads_cut g i).1 hg).1, heads_app2.2 ⟨hb, ((heads_cut g (i + n)).1 hg).2⟩⟩
theorem spl_deep (g : Fo) (i : Nat) : (spl g i 1 .nil).deep ≤ g.deep := by
  have h1 := deep_take g i
  have h2 := deep_take g (i + 1)
  unfold spl
  rw [deep_app, deep_app]
  simp only [Fo.deep]
  omega
theorem go_heads : ∀ (q : List Nat) (f : Fo) {g : Fo}, goTo f q = some g → headsErr f = 0 → headsErr g = 0
  | [], _, _, e, h => by cases e; exact h
  | a :: q, f, g, e, h => by
    rw [goTo] at e
    cases hn : nth f a with
    | none => simp [hn] at e
    | some x =>
      rw [hn] at e
      exact go_heads q x.2 e (nth_heads (h := x.1) (ks := x.2) hn h).2.2
theorem drop_size1 {g : Fo} {i : Nat} {h : Hd} {ks : Fo} (hn : nth g i = some (h, ks)) : (g.drop i).size = ks.size + 1 + (g.drop (i + 1)).size := by
  rw [drop_nth hn]
  simp only [Fo.size]
  omega
/- elsewhere. -/
end Go.Proofs.YtcgedpfolloinaaGreat

namespace Go.Proofs.YtcgedpfolloinaaGreat
open Go.RowKit

theorem splice_path (f : Fo) (p : List Int) (q : List Nat) (i out : Nat) (g b : Fo) (v pv u : Value) (w : World) (hl : Lies w v f) (hp : IntsLie w pv p) (hpl : p.length ≤ 1000000) (hu : Lies w u b) (e : p = pathInts (q ++ [i])) (hg : goTo f q = some g) (hi : i + out ≤ g.len) (hs : f.size ≤ 100000) (hsb : b.size ≤ 100000) :
    Calls Tryz.prog 105 #[v, pv, .int .i64 out, u] w (FoE w (inBnd (changeF f (q ++ [i]) out b))) := by
  subst e
  rw [changeF_at q f i out b hg]
  exact splice_any f q i out g b v pv u w hl hp (by rw [List.length_map, List.length_append] at hpl; omega) hu hg hi hs hsb
theorem ints_init {w : World} {v : Value} {q : List Int} {x : Int} (h : IntsLie w v (q ++ [x])) : ∃ b o cap, v = .slice (some ⟨b, o, none⟩) (q ++ [x]).length cap ∧ (q ++ [x]).length ≤ cap ∧ b < w.heap.size ∧ w.cell? ⟨b, o + q.length, none⟩ = some (.int .i64 x) ∧ IntsLie w (.slice (some ⟨b, o, none⟩) q.length cap) q := by
  obtain ⟨b, o, cap, e, hc, hb, hk⟩ := ints_cells h (by simp)
  rw [List.length_append] at hc
  refine ⟨b, o, cap, e, by rw [List.length_append]; exact hc, hb, ?_, .inr ⟨b, o, cap, rfl, by omega, hb, fun k hk' => ?_⟩⟩
  · rw [hk q.length (by simp), List.getD_eq_getElem?_getD, List.getElem?_append_right (Nat.le_refl _), Nat.sub_self]; rfl
  · rw [hk k (by simp; omega), List.getD_eq_getElem?_getD, List.getElem?_append_left hk', ← List.getD_eq_getElem?_getD]
theorem foE_none {w w' : World} {er : Int} (h : Below w.heap.size w w') : FoE w (.nil, er) (.returned (.tuple #[.slice none 0 0, .int .i64 er])) w' := ⟨.slice none 0 0, rfl, .inl ⟨_, _, rfl, rfl⟩, h⟩

set_option maxRecDepth 100000 in
set_option maxHeartbeats 8000000 in
theorem tcut_any (f : Fo) (p : List Int) (v pv : Value) (w : World) (hl : Lies w v f) (hp : IntsLie w pv p) (hpl : p.length ≤ 1000000) (hs : Small f) :
    Calls Tryz.prog 48 #[v, pv] w (FoE w (cutV f p)) := by
  have CF := Lib.hid (fun W (hW : Below w.heap.size w W) => tcheck_any f v W (lies_below hl hW) hs)
  have TE := Lib.hid (fun x l W (h : IntsLie W x l) (hl : l.length ≤ 1000000) => (terr_any x l W h hl).mono (fun e w' (H : e = .returned (.int .i64 (firstNZ l)) ∧ W = w') => (⟨H.1, H.2 ▸ Below.refl _ _⟩ : e = .returned (.int .i64 (firstNZ l)) ∧ Below W.heap.size W w')))
  have CP := Lib.hid (fun W (hW : Below w.heap.size w W) => checkPlace_any f p v pv W (lies_below hl hW) (ints_below hp hW) hpl)
  have SP := Lib.hid (fun (he : placeErr f p = 0) W (hW : Below w.heap.size w W) => show Calls Tryz.prog 105 #[v, pv, .int .i64 (1 : Nat), .slice none 0 0] W (FoE W (inBnd (changeF f (p.map Int.toNat) 1 .nil))) by
    obtain ⟨q, i, g, e1, e2, e3, e4⟩ := place_cut he
    rw [e2]
    exact splice_path f p q i 1 g .nil v pv _ W (lies_below hl hW) (ints_below hp hW) hpl (.inl ⟨_, _, rfl, rfl⟩) e1 e3 e4 hs.size (Nat.zero_le _))
  obtain ⟨R, hR⟩ : ∃ R, cutV f p = R := ⟨_, rfl⟩
  rw [hR]
  have HR := Lib.hid hR.symm
  unfold cutV at HR
  obtain ⟨av, cv, rfl⟩ := lies_form hl
  obtain ⟨pa, pc, rfl⟩ := ints_form hp
  clear hl hp hs hR
  generalize changeF f (p.map Int.toNat) 1 .nil = CH at *
  generalize foErr f = e1 at *
  generalize placeErr f p = e3 at *
  go_enter Tryz.func48, Tryz.ntmps48
  go_wp2_with fail
  refine (CF.out w (Below.refl _ _)).mono ?_
  rintro e X1 ⟨rfl, hb1⟩
  go_wp2_with fail
  refine (CP.out X1 hb1).mono ?_
  rintro e X2 ⟨rfl, hb2⟩
  have B2 := hb1.trans (hb2.mono hb1.size)
  clear hb1 hb2
  have kk := ints_pair (World.alloc_heap_new X2 (.cells #[.int .i64 e1, .int .i64 e3] 32)) (by simp)
  have B3 : Below w.heap.size w (X2.alloc (.cells #[.int .i64 e1, .int .i64 e3] 32)) := B2.alloc B2.size _
  go_wp2_with fail
  generalize X2.alloc (.cells #[.int .i64 e1, .int .i64 e3] 32) = X3 at *
  refine (TE.out _ _ X3 kk (by simp)).mono ?_
  rintro e W2 ⟨rfl, hb4⟩
  have BW2 := B3.trans (hb4.mono B3.size)
  have FZ := Lib.hid (first_zero (l := [e1, e3]))
  clear kk B2 B3 hb4
  generalize firstNZ [e1, e3] = ee at *
  by_cases h0 : ee = 0
  rotate_left
  · have HX := HR.out.trans (if_neg h0)
    have b0 : (ee != 0) = true := by simpa using h0
    clear h0
    go_wp2_with fail
    go_ret2
    rw [HX]
    exact foE_none BW2
  · have HX0 := Lib.hid (HR.out.trans (if_pos h0))
    have b0 : (ee != 0) = false := by simpa using h0
    have h3 : e3 = 0 := FZ.out h0 e3 (by simp)
    clear h0
    go_wp2_with fail
    have HX := HX0.out
    refine (SP.out h3 W2 BW2).mono ?_
    rintro e w9 ⟨v9, rfl, hF9, hb9⟩
    have HF9 := Lib.hid (liesF_mono (B' := w.heap.size) BW2.size hF9)
    have B9 := BW2.trans (hb9.mono BW2.size)
    obtain ⟨a9, c9, rfl⟩ := liesF_form hF9
    clear hF9 hb9
    go_wp2_with fail
    go_ret2
    rw [HX]
    exact ⟨_, rfl, HF9.out, B9⟩

set_option maxRecDepth 100000 in
set_option maxHeartbeats 8000000 in
theorem tinsert_nil (f : Fo) (h : Hd) (ks : Fo) (v pv : Value) (aa : Option Addr) (ca : Nat) (ak : Option Addr) (ck : Nat) (w : World) (hl : Lies w v f) (hp : IntsLie w pv []) (ha : AttrsLie w (.slice aa h.ats.length ca) h.ats) (hk : Lies w (.slice ak ks.len ck) ks) (hs : Small f) (hs1 : Small (.cons h ks .nil)) :
    Calls Tryz.prog 46 #[v, pv, aggOf h aa ca ak ks.len ck] w (FoE w (insV f [] (.cons h ks .nil))) := by
  have CF := Lib.hid (fun W (hW : Below w.heap.size w W) => tcheck_any f v W (lies_below hl hW) hs)
  have TE := Lib.hid (fun x l W (h : IntsLie W x l) (hl : l.length ≤ 1000000) => (terr_any x l W h hl).mono (fun e w' (H : e = .returned (.int .i64 (firstNZ l)) ∧ W = w') => (⟨H.1, H.2 ▸ Below.refl _ _⟩ : e = .returned (.int .i64 (firstNZ l)) ∧ Below W.heap.size W w')))
  have CT := Lib.hid (fun W x (hx : Lies W x (.cons h ks .nil)) => tcheck_any (.cons h ks .nil) x W hx hs1)
  obtain ⟨R, hR⟩ : ∃ R, insV f [] (.cons h ks .nil) = R := ⟨_, rfl⟩
  rw [hR]
  have HR := Lib.hid hR.symm
  unfold insV at HR
  have HA := Lib.hid (fun W (hW : Below w.heap.size w W) => attrs_below ha hW)
  have HK := Lib.hid (fun W (hW : Below w.heap.size w W) => lies_below hk hW)
  obtain ⟨av, cv, rfl⟩ := lies_form hl
  obtain ⟨pa, pc, rfl⟩ := ints_form hp
  simp only [List.length_nil]
  rw [if_pos rfl] at HR
  clear hl hp ha hk hs hs1 hR
  generalize foErr f = e1 at *
  generalize foErr (.cons h ks .nil) = e2 at *
  unfold aggOf
  go_enter Tryz.func46, Tryz.ntmps46
  go_upto_region 1 with fail
  have kk := World.alloc_heap_new w (.cells #[.int .i64 h.k, .string ⟨h.l.toArray⟩, .slice aa h.ats.length ca, .int .i64 h.n, .int .i64 h.d, .string ⟨h.x.toArray⟩, .slice ak ks.len ck] 43)
  have B0 : Below w.heap.size w (w.alloc (.cells #[.int .i64 h.k, .string ⟨h.l.toArray⟩, .slice aa h.ats.length ca, .int .i64 h.n, .int .i64 h.d, .string ⟨h.x.toArray⟩, .slice ak ks.len ck] 43)) := by ((repeat' (first | exact Below.refl _ _ | assumption | refine Below.setCell ?_ ?_ _ | refine bdrewN ?_ _ | refine Below.drew ?_ | refine Below.alloc ?_ ?_ _ | refine bbehind ?_ (by assumption) ?_)); all_goals first | (simp; done) | (simp; omega) | omega)
  have zb : w.heap.size < (w.alloc (.cells #[.int .i64 h.k, .string ⟨h.l.toArray⟩, .slice aa h.ats.length ca, .int .i64 h.n, .int .i64 h.d, .string ⟨h.x.toArray⟩, .slice ak ks.len ck] 43)).heap.size := by simp
  obtain ⟨tb, htb⟩ : ∃ t, t = w.heap.size := ⟨_, rfl⟩
  have htb' := Lib.hid htb
  have KB := Lib.hid kk
  rw [← htb] at KB
  have zb2 : tb < (w.alloc (.cells #[.int .i64 h.k, .string ⟨h.l.toArray⟩, .slice aa h.ats.length ca, .int .i64 h.n, .int .i64 h.d, .string ⟨h.x.toArray⟩, .slice ak ks.len ck] 43)).heap.size := by omega
  generalize w.alloc (.cells #[.int .i64 h.k, .string ⟨h.l.toArray⟩, .slice aa h.ats.length ca, .int .i64 h.n, .int .i64 h.d, .string ⟨h.x.toArray⟩, .slice ak ks.len ck] 43) = W at *
  clear kk zb
  have zb := zb2
  clear zb2
  have hbox : (Value.pointer (some ⟨w.heap.size, 0, none⟩)) = .pointer (some ⟨tb, 0, none⟩) := by rw [htb]
  rw [hbox]
  clear hbox htb
  go_cut [8] (fun s wx => s = .int .i64 (firstNZ [e1, e2]) ∧ Below w.heap.size w wx ∧ tb < wx.heap.size ∧ wx.heap[tb]? = some (.cells #[.int .i64 h.k, .string ⟨h.l.toArray⟩, .slice aa h.ats.length ca, .int .i64 h.n, .int .i64 h.d, .string ⟨h.x.toArray⟩, .slice ak ks.len ck] 43))
  case first =>
    refine wp_region_any (by kernel_rfl) ?_
    change wpAny _ _ _ _ _ _ _ (World.drew _)
    have BX : Below w.heap.size w W.drew := B0.drew
    have KB0 := Lib.hid (show W.drew.heap[tb]? = _ from KB.out)
    have zb0 : tb < W.drew.heap.size := zb
    clear KB zb
    generalize W.drew = X at *
    have KB := Lib.hid KB0.out
    have zb := zb0
    clear KB0 zb0
    refine wpAny_take (i := 0) (v := .slice av f.len cv) rfl (by decide +kernel) (by decide +kernel) (by decide +kernel) (fun _ _ _ h => h) (Or.inl ⟨by kernel_rfl, by intro w; go_simp <;> with_reducible rfl⟩) ?_
    simp only [Act.put, List.setIfInBounds_toArray]
    refine wpAny_ready (rs := [1, 2]) (by decide +kernel) (by simp) ?_
    refine AllReady.cons rfl (fun K hK => ?_) (AllReady.cons rfl (fun K hK => ?_) AllReady.nil)
    · go_simp
      go_wp2_with (go_at_call 19; refine (CF.out X BX).mono ?_; rintro e Y19 ⟨rfl, hb⟩)
      have BY19 : Below w.heap.size w Y19 := BX.trans (hb.mono BX.size)
      have KB := Lib.hid ((hb.block _ zb).trans KB.out)
      have zb := Nat.lt_of_lt_of_le zb hb.size
      clear hb
      refine wpAny_ready (rs := [2]) (by decide +kernel) (by simp) ?_
      refine AllReady.cons rfl (fun K hK => ?_) AllReady.nil
      have d0 : Y19.cell? ⟨tb, 0, none⟩ = some (.int .i64 h.k) := cell_of_block KB.out rfl
      have d1 : Y19.cell? ⟨tb, 1, none⟩ = some (.string ⟨h.l.toArray⟩) := cell_of_block KB.out rfl
      have d2 : Y19.cell? ⟨tb, 2, none⟩ = some (.slice aa h.ats.length ca) := cell_of_block KB.out rfl
      have d3 : Y19.cell? ⟨tb, 3, none⟩ = some (.int .i64 h.n) := cell_of_block KB.out rfl
      have d4 : Y19.cell? ⟨tb, 4, none⟩ = some (.int .i64 h.d) := cell_of_block KB.out rfl
      have d5 : Y19.cell? ⟨tb, 5, none⟩ = some (.string ⟨h.x.toArray⟩) := cell_of_block KB.out rfl
      have d6 : Y19.cell? ⟨tb, 6, none⟩ = some (.slice ak ks.len ck) := cell_of_block KB.out rfl
      go_simp
      refine hK _ _ ?_
      clear hK K d0 d1 d2 d3 d4 d5 d6
      refine wpAny_ready (rs := [3]) (by decide +kernel) (by simp) ?_
      refine AllReady.cons rfl (fun K hK => ?_) AllReady.nil
      go_simp
      refine hK _ _ ?_
      clear hK K
      have kk := World.alloc_heap_new Y19 (.cells #[.int .i64 h.k, .string ⟨h.l.toArray⟩, .slice aa h.ats.length ca, .int .i64 h.n, .int .i64 h.d, .string ⟨h.x.toArray⟩, .slice ak ks.len ck] 43)
      have hb : Below Y19.heap.size Y19 (Y19.alloc (.cells #[.int .i64 h.k, .string ⟨h.l.toArray⟩, .slice aa h.ats.length ca, .int .i64 h.n, .int .i64 h.d, .string ⟨h.x.toArray⟩, .slice ak ks.len ck] 43)) := (Below.refl _ _).alloc (Nat.le_refl _) _
      have hsz : (Y19.alloc (.cells #[.int .i64 h.k, .string ⟨h.l.toArray⟩, .slice aa h.ats.length ca, .int .i64 h.n, .int .i64 h.d, .string ⟨h.x.toArray⟩, .slice ak ks.len ck] 43)).heap.size = Y19.heap.size + 1 := by simp
      generalize Y19.alloc (.cells #[.int .i64 h.k, .string ⟨h.l.toArray⟩, .slice aa h.ats.length ca, .int .i64 h.n, .int .i64 h.d, .string ⟨h.x.toArray⟩, .slice ak ks.len ck] 43) = Y20 at *
      have BY20 : Below w.heap.size w Y20 := BY19.trans (hb.mono BY19.size)
      have KB := Lib.hid ((hb.block _ zb).trans KB.out)
      have zb := Nat.lt_of_lt_of_le zb hb.size
      have LT := Lib.hid (lies_one kk (HA.out Y20 BY20) (HK.out Y20 BY20))
      clear kk hb hsz
      refine wpAny_ready (rs := [4]) (by decide +kernel) (by simp) ?_
      refine AllReady.cons rfl (fun K hK => ?_) AllReady.nil
      go_simp
      go_wp2_with (go_at_call 19; refine (CT.out Y20 _ LT.out).mono ?_; rintro e Y21 ⟨rfl, hb⟩)
      have BY21 : Below w.heap.size w Y21 := BY20.trans (hb.mono BY20.size)
      have KB := Lib.hid ((hb.block _ zb).trans KB.out)
      have zb := Nat.lt_of_lt_of_le zb hb.size
      have LT := Lib.hid (lies_below LT.out hb)
      clear hb
      refine wpAny_ready (rs := [5]) (by decide +kernel) (by simp) ?_
      refine AllReady.cons rfl (fun K hK => ?_) AllReady.nil
      go_simp
      refine hK _ _ ?_
      clear hK K
      have kk := World.alloc_heap_new Y21 (.cells #[.int .i64 e1, .int .i64 e2] 32)
      have hb : Below Y21.heap.size Y21 (Y21.alloc (.cells #[.int .i64 e1, .int .i64 e2] 32)) := (Below.refl _ _).alloc (Nat.le_refl _) _
      have hsz : (Y21.alloc (.cells #[.int .i64 e1, .int .i64 e2] 32)).heap.size = Y21.heap.size + 1 := by simp
      generalize Y21.alloc (.cells #[.int .i64 e1, .int .i64 e2] 32) = Y22 at *
      have BY22 : Below w.heap.size w Y22 := BY21.trans (hb.mono BY21.size)
      have KB := Lib.hid ((hb.block _ zb).trans KB.out)
      have zb := Nat.lt_of_lt_of_le zb hb.size
      have LT := Lib.hid (lies_below LT.out hb)
      have HI := Lib.hid (ints_pair kk (by rw [hsz]; omega))
      clear kk hb hsz
      refine wpAny_ready (rs := [6]) (by decide +kernel) (by simp) ?_
      refine AllReady.cons rfl (fun K hK => ?_) AllReady.nil
      go_simp
      go_wp2_with (go_at_call 85; refine (TE.out _ [e1, e2] Y22 HI.out (by simp)).mono ?_; rintro e Y23 ⟨rfl, hb⟩)
      have BY23 : Below w.heap.size w Y23 := BY22.trans (hb.mono BY22.size)
      have KB := Lib.hid ((hb.block _ zb).trans KB.out)
      have zb := Nat.lt_of_lt_of_le zb hb.size
      have LT := Lib.hid (lies_below LT.out hb)
      clear hb
      refine wpAny_ready (rs := [7]) (by decide +kernel) (by simp) ?_
      refine AllReady.cons rfl (fun K hK => ?_) AllReady.nil
      go_simp
      refine hK _ _ ?_
      clear hK K
      refine wpAny_done (by decide +kernel) ?_ _
      go_wp2_with fail
      go_meet
      case rel => exact ⟨rfl, BY23, zb, KB.out⟩
    · have d0 : X.cell? ⟨tb, 0, none⟩ = some (.int .i64 h.k) := cell_of_block KB.out rfl
      have d1 : X.cell? ⟨tb, 1, none⟩ = some (.string ⟨h.l.toArray⟩) := cell_of_block KB.out rfl
      have d2 : X.cell? ⟨tb, 2, none⟩ = some (.slice aa h.ats.length ca) := cell_of_block KB.out rfl
      have d3 : X.cell? ⟨tb, 3, none⟩ = some (.int .i64 h.n) := cell_of_block KB.out rfl
      have d4 : X.cell? ⟨tb, 4, none⟩ = some (.int .i64 h.d) := cell_of_block KB.out rfl
      have d5 : X.cell? ⟨tb, 5, none⟩ = some (.string ⟨h.x.toArray⟩) := cell_of_block KB.out rfl
      have d6 : X.cell? ⟨tb, 6, none⟩ = some (.slice ak ks.len ck) := cell_of_block KB.out rfl
      go_simp
      refine hK _ _ ?_
      clear hK K d0 d1 d2 d3 d4 d5 d6
      refine wpAny_ready (rs := [1, 3]) (by decide +kernel) (by simp) ?_
      refine AllReady.cons rfl (fun K hK => ?_) (AllReady.cons rfl (fun K hK => ?_) AllReady.nil)
      · go_simp
        go_wp2_with (go_at_call 19; refine (CF.out X BX).mono ?_; rintro e Y24 ⟨rfl, hb⟩)
        have BY24 : Below w.heap.size w Y24 := BX.trans (hb.mono BX.size)
        have KB := Lib.hid ((hb.block _ zb).trans KB.out)
        have zb := Nat.lt_of_lt_of_le zb hb.size
        clear hb
        refine wpAny_ready (rs := [3]) (by decide +kernel) (by simp) ?_
        refine AllReady.cons rfl (fun K hK => ?_) AllReady.nil
        go_simp
        refine hK _ _ ?_
        clear hK K
        have kk := World.alloc_heap_new Y24 (.cells #[.int .i64 h.k, .string ⟨h.l.toArray⟩, .slice aa h.ats.length ca, .int .i64 h.n, .int .i64 h.d, .string ⟨h.x.toArray⟩, .slice ak ks.len ck] 43)
        have hb : Below Y24.heap.size Y24 (Y24.alloc (.cells #[.int .i64 h.k, .string ⟨h.l.toArray⟩, .slice aa h.ats.length ca, .int .i64 h.n, .int .i64 h.d, .string ⟨h.x.toArray⟩, .slice ak ks.len ck] 43)) := (Below.refl _ _).alloc (Nat.le_refl _) _
        have hsz : (Y24.alloc (.cells #[.int .i64 h.k, .string ⟨h.l.toArray⟩, .slice aa h.ats.length ca, .int .i64 h.n, .int .i64 h.d, .string ⟨h.x.toArray⟩, .slice ak ks.len ck] 43)).heap.size = Y24.heap.size + 1 := by simp
        generalize Y24.alloc (.cells #[.int .i64 h.k, .string ⟨h.l.toArray⟩, .slice aa h.ats.length ca, .int .i64 h.n, .int .i64 h.d, .string ⟨h.x.toArray⟩, .slice ak ks.len ck] 43) = Y25 at *
        have BY25 : Below w.heap.size w Y25 := BY24.trans (hb.mono BY24.size)
        have KB := Lib.hid ((hb.block _ zb).trans KB.out)
        have zb := Nat.lt_of_lt_of_le zb hb.size
        have LT := Lib.hid (lies_one kk (HA.out Y25 BY25) (HK.out Y25 BY25))
        clear kk hb hsz
        refine wpAny_ready (rs := [4]) (by decide +kernel) (by simp) ?_
        refine AllReady.cons rfl (fun K hK => ?_) AllReady.nil
        go_simp
        go_wp2_with (go_at_call 19; refine (CT.out Y25 _ LT.out).mono ?_; rintro e Y26 ⟨rfl, hb⟩)
        have BY26 : Below w.heap.size w Y26 := BY25.trans (hb.mono BY25.size)
        have KB := Lib.hid ((hb.block _ zb).trans KB.out)
        have zb := Nat.lt_of_lt_of_le zb hb.size
        have LT := Lib.hid (lies_below LT.out hb)
        clear hb
        refine wpAny_ready (rs := [5]) (by decide +kernel) (by simp) ?_
        refine AllReady.cons rfl (fun K hK => ?_) AllReady.nil
        go_simp
        refine hK _ _ ?_
        clear hK K
        have kk := World.alloc_heap_new Y26 (.cells #[.int .i64 e1, .int .i64 e2] 32)
        have hb : Below Y26.heap.size Y26 (Y26.alloc (.cells #[.int .i64 e1, .int .i64 e2] 32)) := (Below.refl _ _).alloc (Nat.le_refl _) _
        have hsz : (Y26.alloc (.cells #[.int .i64 e1, .int .i64 e2] 32)).heap.size = Y26.heap.size + 1 := by simp
        generalize Y26.alloc (.cells #[.int .i64 e1, .int .i64 e2] 32) = Y27 at *
        have BY27 : Below w.heap.size w Y27 := BY26.trans (hb.mono BY26.size)
        have KB := Lib.hid ((hb.block _ zb).trans KB.out)
        have zb := Nat.lt_of_lt_of_le zb hb.size
        have LT := Lib.hid (lies_below LT.out hb)
        have HI := Lib.hid (ints_pair kk (by rw [hsz]; omega))
        clear kk hb hsz
        refine wpAny_ready (rs := [6]) (by decide +kernel) (by simp) ?_
        refine AllReady.cons rfl (fun K hK => ?_) AllReady.nil
        go_simp
        go_wp2_with (go_at_call 85; refine (TE.out _ [e1, e2] Y27 HI.out (by simp)).mono ?_; rintro e Y28 ⟨rfl, hb⟩)
        have BY28 : Below w.heap.size w Y28 := BY27.trans (hb.mono BY27.size)
        have KB := Lib.hid ((hb.block _ zb).trans KB.out)
        have zb := Nat.lt_of_lt_of_le zb hb.size
        have LT := Lib.hid (lies_below LT.out hb)
        clear hb
        refine wpAny_ready (rs := [7]) (by decide +kernel) (by simp) ?_
        refine AllReady.cons rfl (fun K hK => ?_) AllReady.nil
        go_simp
        refine hK _ _ ?_
        clear hK K
        refine wpAny_done (by decide +kernel) ?_ _
        go_wp2_with fail
        go_meet
        case rel => exact ⟨rfl, BY28, zb, KB.out⟩
      · go_simp
        refine hK _ _ ?_
        clear hK K
        have kk := World.alloc_heap_new X (.cells #[.int .i64 h.k, .string ⟨h.l.toArray⟩, .slice aa h.ats.length ca, .int .i64 h.n, .int .i64 h.d, .string ⟨h.x.toArray⟩, .slice ak ks.len ck] 43)
        have hb : Below X.heap.size X (X.alloc (.cells #[.int .i64 h.k, .string ⟨h.l.toArray⟩, .slice aa h.ats.length ca, .int .i64 h.n, .int .i64 h.d, .string ⟨h.x.toArray⟩, .slice ak ks.len ck] 43)) := (Below.refl _ _).alloc (Nat.le_refl _) _
        have hsz : (X.alloc (.cells #[.int .i64 h.k, .string ⟨h.l.toArray⟩, .slice aa h.ats.length ca, .int .i64 h.n, .int .i64 h.d, .string ⟨h.x.toArray⟩, .slice ak ks.len ck] 43)).heap.size = X.heap.size + 1 := by simp
        generalize X.alloc (.cells #[.int .i64 h.k, .string ⟨h.l.toArray⟩, .slice aa h.ats.length ca, .int .i64 h.n, .int .i64 h.d, .string ⟨h.x.toArray⟩, .slice ak ks.len ck] 43) = Y29 at *
        have BY29 : Below w.heap.size w Y29 := BX.trans (hb.mono BX.size)
        have KB := Lib.hid ((hb.block _ zb).trans KB.out)
        have zb := Nat.lt_of_lt_of_le zb hb.size
        have LT := Lib.hid (lies_one kk (HA.out Y29 BY29) (HK.out Y29 BY29))
        clear kk hb hsz
        refine wpAny_ready (rs := [1]) (by decide +kernel) (by simp) ?_
        refine AllReady.cons rfl (fun K hK => ?_) AllReady.nil
        go_simp
        go_wp2_with (go_at_call 19; refine (CF.out Y29 BY29).mono ?_; rintro e Y30 ⟨rfl, hb⟩)
        have BY30 : Below w.heap.size w Y30 := BY29.trans (hb.mono BY29.size)
        have KB := Lib.hid ((hb.block _ zb).trans KB.out)
        have zb := Nat.lt_of_lt_of_le zb hb.size
        have LT := Lib.hid (lies_below LT.out hb)
        clear hb
        refine wpAny_ready (rs := [4]) (by decide +kernel) (by simp) ?_
        refine AllReady.cons rfl (fun K hK => ?_) AllReady.nil
        go_simp
        go_wp2_with (go_at_call 19; refine (CT.out Y30 _ LT.out).mono ?_; rintro e Y31 ⟨rfl, hb⟩)
        have BY31 : Below w.heap.size w Y31 := BY30.trans (hb.mono BY30.size)
        have KB := Lib.hid ((hb.block _ zb).trans KB.out)
        have zb := Nat.lt_of_lt_of_le zb hb.size
        have LT := Lib.hid (lies_below LT.out hb)
        clear hb
        refine wpAny_ready (rs := [5]) (by decide +kernel) (by simp) ?_
        refine AllReady.cons rfl (fun K hK => ?_) AllReady.nil
        go_simp
        refine hK _ _ ?_
        clear hK K
        have kk := World.alloc_heap_new Y31 (.cells #[.int .i64 e1, .int .i64 e2] 32)
        have hb : Below Y31.heap.size Y31 (Y31.alloc (.cells #[.int .i64 e1, .int .i64 e2] 32)) := (Below.refl _ _).alloc (Nat.le_refl _) _
        have hsz : (Y31.alloc (.cells #[.int .i64 e1, .int .i64 e2] 32)).heap.size = Y31.heap.size + 1 := by simp
        generalize Y31.alloc (.cells #[.int .i64 e1, .int .i64 e2] 32) = Y32 at *
        have BY32 : Below w.heap.size w Y32 := BY31.trans (hb.mono BY31.size)
        have KB := Lib.hid ((hb.block _ zb).trans KB.out)
        have zb := Nat.lt_of_lt_of_le zb hb.size
        have LT := Lib.hid (lies_below LT.out hb)
        have HI := Lib.hid (ints_pair kk (by rw [hsz]; omega))
        clear kk hb hsz
        refine wpAny_ready (rs := [6]) (by decide +kernel) (by simp) ?_
        refine AllReady.cons rfl (fun K hK => ?_) AllReady.nil
        go_simp
        go_wp2_with (go_at_call 85; refine (TE.out _ [e1, e2] Y32 HI.out (by simp)).mono ?_; rintro e Y33 ⟨rfl, hb⟩)
        have BY33 : Below w.heap.size w Y33 := BY32.trans (hb.mono BY32.size)
        have KB := Lib.hid ((hb.block _ zb).trans KB.out)
        have zb := Nat.lt_of_lt_of_le zb hb.size
        have LT := Lib.hid (lies_below LT.out hb)
        clear hb
        refine wpAny_ready (rs := [7]) (by decide +kernel) (by simp) ?_
        refine AllReady.cons rfl (fun K hK => ?_) AllReady.nil
        go_simp
        refine hK _ _ ?_
        clear hK K
        refine wpAny_done (by decide +kernel) ?_ _
        go_wp2_with fail
        go_meet
        case rel => exact ⟨rfl, BY33, zb, KB.out⟩

  case rest =>
    obtain ⟨rfl, BW2, zb, hkb⟩ := hcut
    have KB := Lib.hid hkb
    have FZ := Lib.hid (first_zero (l := [e1, e2]))
    clear hkb
    generalize firstNZ [e1, e2] = ee at *
    by_cases h0 : ee = 0
    rotate_left
    · have HX := HR.out.trans (if_neg h0)
      have b0 : (ee != 0) = true := by simpa using h0
      clear h0
      go_wp2_with fail
      go_ret2
      rw [HX]
      exact foE_none BW2
    · have HX0 := Lib.hid (HR.out.trans (if_pos h0))
      have b0 : (ee != 0) = false := by simpa using h0
      clear h0
      go_wp2_with fail
      go_ret2
      rw [HX0.out]
      exact foE_none BW2
end Go.Proofs.YtcgedpfolloinaaGreat
