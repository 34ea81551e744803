import Derived.Test.YtgefidffhdanhaaNumB
namespace Go.Proofs.Ytgefidffhdanhaa
open Go.RowKit

theorem wpS_here {P : Program} {c : Code} {Q : Exit → Act → List Frame → World → Prop} {a : Act} {cs : List Frame} {w : World} (h : c.wp P (fun e a' w' => Q e a' cs w') a w) : c.wpS P Q a cs w := wpS_of_wp h

set_option maxRecDepth 100000 in
/-- the deferred function of 'bounded', where the panic 'beyond' goes through it. -/
theorem catch_beyond (p : Addr) (x : Int) (older : List PanicEntry) (w : World) (hc : w.cell? p = some (.int .i64 x)) (hz : w.frozen? p = false) :
    CallsD Try.prog 120 #[.pointer (some p)] (.panicking ({ v := .iface 107 (.agg #[]), recovered := false } :: older)) w fun e u' w' =>
      e = .returned (.tuple #[]) ∧ u' = .panicking ({ v := .iface 107 (.agg #[]), recovered := true } :: older) ∧ w' = w.setCell p (.int .i64 8) := by
  have hta : ∀ w, (Instr.typeAssert (.iface 107 (.agg #[])) 20 107 true).run Try.prog w = .ok (.tuple #[.agg #[], .bool true]) w := fun _ => by kernel_rfl
  refine callsD_of_wpS Try.func120 rfl fun c₀ cs hu => ?_
  apply wpS_seq
  apply wpS_region
  simp [wpOpsS, go_sem, recoverD, hu, Try.ntmps120, Exit.thenS]
  refine wpS_of_wp ?_
  clear hu
  change Code.wp _ _ _ { tmps := #[.pointer (some p), .iface 107 (.agg #[]), undef, undef, undef, undef], defers := [] } _
  go_wp2
  simp [bodyPostS, results, Try.results120]

theorem catch_idle (p : Addr) (w : World) :
    CallsD Try.prog 120 #[.pointer (some p)] .returning w fun e u' w' => e = .returned (.tuple #[]) ∧ u' = .returning ∧ w' = w := by
  refine callsD_of_wpS Try.func120 rfl fun c₀ cs hu => ?_
  apply wpS_seq
  apply wpS_region
  simp [wpOpsS, go_sem, recoverD, hu, Try.ntmps120, Exit.thenS]
  refine wpS_of_wp ?_
  go_wp2
  cases c₀
  simp_all [bodyPostS, results, Try.results120]

set_option maxRecDepth 100000 in
theorem bounded_ret (k : FuncId) (cap : Array Value) (n d : Int) (w : World) (hk : ∀ w1, (callFunc k cap).run Try.prog w1 = .ok (.enter k cap) w1)
    (hf : ∀ w1, Below w.heap.size w w1 → Calls Try.prog k cap w1 fun e w' => e = .returned (.agg #[.int .i64 n, .int .i64 d]) ∧ Below w1.heap.size w1 w') :
    Calls Try.prog 70 #[.func (.func k) #[] cap] w fun e w' => e = .returned (.tuple #[.agg #[.int .i64 n, .int .i64 d], .int .i64 0]) ∧ Below w.heap.size w w' := by
  have hmf : ∀ (fn : Fn) (first cap : Array Value) (w : World), (Instr.makeFunc fn first cap).run Try.prog w = .ok (.func fn first cap) w := fun _ _ _ _ => rfl
  have HF := Lib.hid hf; clear hf
  go_enter_defers Try.func70, Try.ntmps70
  go_wp2_with fail
  refine (HF.out _ (by ((repeat' (first | exact Below.refl _ _ | assumption | refine Below.setCell ?_ ?_ _ | refine bdrewN ?_ _ | refine Below.drew ?_ | refine Below.alloc ?_ ?_ _ | refine bbehind ?_ (by assumption) ?_)); all_goals first | (simp; done) | (simp; omega) | omega))).mono ?_
  rintro e w1 ⟨rfl, hb1⟩
  obtain ⟨hc1, hf1⟩ := bcell hb1
  have hs1 := hb1.size
  simp at hs1
  go_wp2
  refine leaves_cons (f := 120) (args := #[.pointer (some ⟨w.heap.size + 1, 0, none⟩)]) (by simp) (by simp [go_sem]) ?_
  refine (catch_idle ⟨w.heap.size + 1, 0, none⟩ _).mono ?_
  rintro e u' w'' ⟨rfl, rfl, rfl⟩
  simp (maxDischargeDepth := 8) [Leaves, settle, results, Try.results70, go_sem, hc1]
  exact by ((repeat' (first | exact Below.refl _ _ | assumption | refine Below.setCell ?_ ?_ _ | refine bdrewN ?_ _ | refine Below.drew ?_ | refine Below.alloc ?_ ?_ _ | refine bbehind ?_ (by assumption) ?_)); all_goals first | (simp; done) | (simp; omega) | omega)

set_option maxRecDepth 100000 in
theorem bounded_beyond (k : FuncId) (cap : Array Value) (w : World) (hk : ∀ w1, (callFunc k cap).run Try.prog w1 = .ok (.enter k cap) w1)
    (hf : ∀ w1, Below w.heap.size w w1 → Calls Try.prog k cap w1 fun e w' => e = .panicked [{ v := .iface 107 (.agg #[]), recovered := false }] ∧ Below w1.heap.size w1 w') :
    Calls Try.prog 70 #[.func (.func k) #[] cap] w fun e w' => e = .returned (.tuple #[.agg #[.int .i64 0, .int .i64 0], .int .i64 8]) ∧ Below w.heap.size w w' := by
  have hmf : ∀ (fn : Fn) (first cap : Array Value) (w : World), (Instr.makeFunc fn first cap).run Try.prog w = .ok (.func fn first cap) w := fun _ _ _ _ => rfl
  have HF := Lib.hid hf; clear hf
  go_enter_defers Try.func70, Try.ntmps70
  go_wp2_with fail
  refine (HF.out _ (by ((repeat' (first | exact Below.refl _ _ | assumption | refine Below.setCell ?_ ?_ _ | refine bdrewN ?_ _ | refine Below.drew ?_ | refine Below.alloc ?_ ?_ _ | refine bbehind ?_ (by assumption) ?_)); all_goals first | (simp; done) | (simp; omega) | omega))).mono ?_
  rintro e w1 ⟨rfl, hb1⟩
  obtain ⟨hc1, hf1⟩ := bcell hb1
  have hs1 := hb1.size
  simp at hs1
  go_wp2
  refine leaves_cons (f := 120) (args := #[.pointer (some ⟨w.heap.size + 1, 0, none⟩)]) (by simp) (by simp [go_sem]) ?_
  refine (catch_beyond ⟨w.heap.size + 1, 0, none⟩ 0 _ _ ?_ ?_).mono ?_
  · simp [go_sem, hc1]
  · simp [go_sem, hf1]
  rintro e u' w'' ⟨rfl, rfl, rfl⟩
  simp (maxDischargeDepth := 8) [Leaves, settle, results, Try.results70, go_sem, hc1]
  exact by ((repeat' (first | exact Below.refl _ _ | assumption | refine Below.setCell ?_ ?_ _ | refine bdrewN ?_ _ | refine Below.drew ?_ | refine Below.alloc ?_ ?_ _ | refine bbehind ?_ (by assumption) ?_)); all_goals first | (simp; done) | (simp; omega) | omega)

end Go.Proofs.Ytgefidffhdanhaa
