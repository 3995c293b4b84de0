/- The table at package level. -/
import Derived.Test.YtdedfnogaonphaaDoorTrigM7
import Derived.Test.YtdedfnogaonphaaDoorMemC
import Derived.Lib.LaidTab
namespace Go.Proofs.YtdedfnogaonphaaDoor
open Go.ChangeShapes Go.WideShapes Go.ChangeAt Go.RowKit
namespace Tg
/-- The steps' angles lie in the table. -/
def Tb (w : World) : Prop := ∀ j : Nat, j < 32 → w.cell? ⟨0, j, none⟩ = some (.int .i64 (an j))
theorem Tb.lt {w : World} (h : Tb w) : 0 < w.heap.size := by
  have h0 := h 0 (by omega)
  rcases Nat.eq_zero_or_pos w.heap.size with g | g
  · simp [World.cell?, g] at h0
  · exact g
theorem Tb.ext {w : World} (h : Tb w) (x : Ext w) : Tb x.u := fun j hj => by
  rw [Ext.cell x 0 j h.lt]; exact h j hj
theorem Tb.alloc {w : World} (h : Tb w) (o : Obj) : Tb (w.alloc o) := fun j hj => by
  have := h j hj
  have := h.lt
  simp [go_sem, *]
theorem Tb.drew {w : World} (h : Tb w) : Tb w.drew := fun j hj => by
  have := h j hj
  simp [go_sem, *]
theorem gT : Tryd.prog.globalNamed "outrigger/trig.stepAngles" = some 0 := by kernel_rfl
theorem gTType : (Tryd.prog.globals[0]?).map (·.type) = some 48 := by kernel_rfl
theorem cells3 : Tryd.prog.cellsOf 3 = 1 := by kernel_rfl
theorem cellsA : Tryd.prog.cellsOf 48 = 32 := by kernel_rfl
theorem tb_of {W : World} (hL : laidMet Tryd.prog [("outrigger/trig.stepAngles", Rows.laid_outrigger_trig_stepAngles)] W) : Tb W := fun j hj => by
  have hl : angs.length = 32 := by decide +kernel
  have h : laidMet Tryd.prog [("outrigger/trig.stepAngles", Lib.tabData .i64 angs)] W := hL
  exact (Lib.tabIs_of_head gT gTType Tryd.underlying48 Tryd.underlying3 cells3 cellsA h).cell gT j (by omega)
/-- The whole table, loaded. -/
def tabA : Array Value := ((List.range 32).map fun j => Value.int .i64 (an j)).toArray
theorem tabA_size : tabA.size = 32 := by simp [tabA]
theorem tabA_get {j : Nat} (hj : j < 32) : tabA[j]? = some (.int .i64 (an j)) := by simp [tabA, hj]
theorem infoA : (Tryd.prog.info? 48).map (·.size) = some 32 := by kernel_rfl
theorem load_tab (w : World) (hT : Tb w) : (loadVar 48 ⟨0, 0, none⟩).run Tryd.prog w = .ok (.agg tabA) w := by
  have hl : (loadCells ⟨0, 0, none⟩ 32).run Tryd.prog w = .ok tabA w := run_loadCells (P := Tryd.prog) w ⟨0, 0, none⟩ 32 (fun j => .int .i64 (an j)) (fun j hj => by
      have hadd : (⟨0, 0, none⟩ : Addr).add j = ⟨0, j, none⟩ := by unfold Addr.add; split <;> simp_all
      rw [hadd]; exact hT j hj)
  cases hq : Tryd.prog.info? 48 with
  | none => have := infoA; simp [hq] at this
  | some i =>
    have hs : i.size = 32 := by have := infoA; simpa [hq] using this
    have hagg : (isAgg 48).run Tryd.prog w = .ok true w := by
      unfold isAgg
      rw [Sem.run_bind, run_underlying Tryd.underlying48 w]
      simp
    simp [loadVar, Sem.run_bind, hagg, sizeOf, typeInfo, hq, hs, hl]
theorem wp_load_tab {o : Oper} {a : Act} {w : World} {K : Act → World → Prop} {Q : Exit → Act → World → Prop} (x : Operand) (ho : o.op = .load 48 x) (hx : a.eval x = .pointer (some ⟨0, 0, none⟩)) (hT : Tb w)
    (h : K (a.put o.dst (.agg tabA)) w) : o.wp Tryd.prog a w K Q := by
  unfold Oper.wp execOp
  simp only [ho, hx, Instr.loadAt, Instr.sureAddr, Sem.run_bind, Sem.run_pure, Result.andThen_ok, load_tab w hT]
  exact h
theorem wpList_load_tab {ops : Array Oper} {rest : List Oper} {o : Oper} {a : Act} {w : World} {Q : Exit → Act → World → Prop} (hgd : o.guard = none) (x : Operand) (ho : o.op = .load 48 x) (hx : a.eval x = .pointer (some ⟨0, 0, none⟩)) (hT : Tb w)
    (h : wpList Tryd.prog ops Q rest (a.put o.dst (.agg tabA)) w) : wpList Tryd.prog ops Q (o :: rest) a w :=
  wpList_plain hgd fun _ hK => wp_load_tab x ho hx hT (hK _ _ h)
theorem idx_tab (j : Nat) (hj : j < 32) (w : World) : (Instr.index 48 (.agg tabA) (.int .i64 (j : Int))).run Tryd.prog w = .ok (.int .i64 (an j)) w := by
  have h1 : 0 ≤ (j : Int) ∧ (j : Int) < 32 := by omega
  have h2 := tabA_get hj
  simp [Instr.index, run_underlying Tryd.underlying48, asIntOf, h1, h2, go_sem]
  omega
end Tg
end Go.Proofs.YtdedfnogaonphaaDoor
