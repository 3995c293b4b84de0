/- The contract of the document's own answer Same of layer 14: programs compared. -/
import Derived.Test.YtnbejkhcifeeiaaRefC36
namespace Go.Proofs.Ytnbejkhcifeeiaa
open Go.ChangeShapes Go.WideShapes Go.ChangeAt Go.RowKit
set_option linter.unusedVariables false
set_option linter.unusedSimpArgs false
attribute [local go_sem] Ext.cell Ext.froz Ext.lt Ext.lt1 Ext.lt2 Ext.lt3 Ext.all drew_heap setCell_size Ext.set_size
attribute [-go_sem] Instr.build loadCells
namespace Rg
open Wl Ce Tk Rw
attribute [local go_sem ↓] eq_ins
set_option maxRecDepth 100000 in
set_option maxHeartbeats 4000000 in
theorem rsame14_c {a b : Option Addr} {c d n m : Nat} {l k : List Ins} (w : World) (h : Inss w a c l) (en : l.length = n) (g : Inss w b d k) (em : k.length = m) :
    Calls Try.prog 13 #[.slice a n c, .slice b m d] w fun e w' => e = .returned (.bool (decide (l = k))) ∧ ∃ x : Ext w, w' = x.u := by
  have m0 := h.1.max
  have k0 := h.1.le
  have m1 := g.1.max
  have k1 := g.1.le
  unfold maxLen at m0 m1
  have hn9 : n ≤ 9223372036854775807 := by omega
  have hm9 : m ≤ 9223372036854775807 := by omega
  clear m0 k0 m1 k1
  by_cases hnm : n = m
  · subst hnm
    go_enter Try.func13, Try.ntmps13
    go_wp2
    go_loopw [5] (fun i wr => ∃ j : Nat, j ≤ n ∧ i = .int .i64 j ∧ (∃ y : Ext w, wr = y.u) ∧ Hid (∀ q, q < j → at' l q = at' k q)) (fun i _ => n - (intOf i).toNat)
    case atStart => exact ⟨0, by omega, rfl, Mr.mk' (Mr.refl _), fun q hq => by omega⟩
    case round =>
      obtain ⟨j, hj, rfl, ⟨y, rfl⟩, HB⟩ := hrel
      by_cases hlt : j < n
      · obtain ⟨b1, o1, rfl, hc1⟩ := ins_cells h y.h j (by omega)
        obtain ⟨b2, o2, rfl, hc2⟩ := ins_cells g y.h j (by omega)
        have hlt' : (j : Int) < n := by omega
        by_cases he : at' l j = at' k j
        · have he' : Hid (at' l j = at' k j) := he
          have HN : Hid (∀ q, q < j + 1 → at' l q = at' k q) := fun q hq => by rcases Nat.lt_or_ge q j with g | g; exact HB.out q g; obtain rfl : q = j := (by omega); exact he'.out
          have hq := eqi_of (at' l j) (at' k j)
          rw [decide_eq_true he] at hq
          clear HB he he'
          go_wp2
          refine wp_region_ext (by kernel_rfl) (by kernel_rfl) ?_; (repeat (go_big_quiet_step (fail))); refine wpQuiet_nil ?_; rintro w1 ⟨x9, rfl⟩; go_wp2
          go_roundw
          case rel => exact ⟨j + 1, by omega, by first | rfl | simp, Mr.mk' (by repeat (first | (with_reducible exact Mr.refl _) | (with_reducible assumption) | (with_reducible apply Mr.drew) | (with_reducible apply Mr.alloc) | (with_reducible apply Mr.ext) | (with_reducible refine Mr.setCell ?_ (by first | (simp; done) | (simp; omega) | omega | (refine leOf0 ?_; (repeat (first | (with_reducible exact Mr.refl _) | (with_reducible apply Mr.drew) | (with_reducible apply Mr.alloc) | (with_reducible apply Mr.ext) | (with_reducible refine Mr.setCell ?_ (by first | (simp; done) | (simp; omega) | omega) _))); done) | (refine leOf ?_; (repeat (first | (with_reducible exact Mr.refl _) | (with_reducible apply Mr.drew) | (with_reducible apply Mr.alloc) | (with_reducible apply Mr.ext) | (with_reducible refine Mr.setCell ?_ (by first | (simp; done) | (simp; omega) | omega) _))); done)) _))), HN⟩
          case measure => simp [intOf]; omega
        · have hf : Hid (decide (l = k) = false) := decide_eq_false (fun e => he (by rw [e]))
          have hq := eqi_of (at' l j) (at' k j)
          rw [decide_eq_false he] at hq
          clear HB he
          go_wp2
          refine wp_region_ext (by kernel_rfl) (by kernel_rfl) ?_; (repeat (go_big_quiet_step (fail))); refine wpQuiet_nil ?_; rintro w1 ⟨x9, rfl⟩; go_wp2
          go_ret
          exact ⟨by rw [hf.out]; rfl, Mr.mk' (by repeat (first | (with_reducible exact Mr.refl _) | (with_reducible assumption) | (with_reducible apply Mr.drew) | (with_reducible apply Mr.alloc) | (with_reducible apply Mr.ext) | (with_reducible refine Mr.setCell ?_ (by first | (simp; done) | (simp; omega) | omega | (refine leOf0 ?_; (repeat (first | (with_reducible exact Mr.refl _) | (with_reducible apply Mr.drew) | (with_reducible apply Mr.alloc) | (with_reducible apply Mr.ext) | (with_reducible refine Mr.setCell ?_ (by first | (simp; done) | (simp; omega) | omega) _))); done) | (refine leOf ?_; (repeat (first | (with_reducible exact Mr.refl _) | (with_reducible apply Mr.drew) | (with_reducible apply Mr.alloc) | (with_reducible apply Mr.ext) | (with_reducible refine Mr.setCell ?_ (by first | (simp; done) | (simp; omega) | omega) _))); done)) _)))⟩
      · obtain rfl : j = n := by omega
        have hf : Hid (decide (l = k) = true) := decide_eq_true (code_eq (by omega) (fun q hq => HB.out q (by omega)))
        clear HB
        go_wp2
        go_ret
        exact ⟨by rw [hf.out]; rfl, Mr.mk' (by repeat (first | (with_reducible exact Mr.refl _) | (with_reducible assumption) | (with_reducible apply Mr.drew) | (with_reducible apply Mr.alloc) | (with_reducible apply Mr.ext) | (with_reducible refine Mr.setCell ?_ (by first | (simp; done) | (simp; omega) | omega | (refine leOf0 ?_; (repeat (first | (with_reducible exact Mr.refl _) | (with_reducible apply Mr.drew) | (with_reducible apply Mr.alloc) | (with_reducible apply Mr.ext) | (with_reducible refine Mr.setCell ?_ (by first | (simp; done) | (simp; omega) | omega) _))); done) | (refine leOf ?_; (repeat (first | (with_reducible exact Mr.refl _) | (with_reducible apply Mr.drew) | (with_reducible apply Mr.alloc) | (with_reducible apply Mr.ext) | (with_reducible refine Mr.setCell ?_ (by first | (simp; done) | (simp; omega) | omega) _))); done)) _)))⟩
  · have hf : Hid (decide (l = k) = false) := decide_eq_false (fun q => hnm (by rw [← en, ← em, q]))
    have n5 : ((n : Int) == (m : Int)) = false := by simp only [beq_eq_false_iff_ne, ne_eq]; omega
    have m5 : ((n : Int) != (m : Int)) = true := by rw [bne, n5]; rfl
    go_enter Try.func13, Try.ntmps13
    go_wp2
    go_ret
    exact ⟨by rw [hf.out]; rfl, Mr.mk' (by repeat (first | (with_reducible exact Mr.refl _) | (with_reducible assumption) | (with_reducible apply Mr.drew) | (with_reducible apply Mr.alloc) | (with_reducible apply Mr.ext) | (with_reducible refine Mr.setCell ?_ (by first | (simp; done) | (simp; omega) | omega | (refine leOf0 ?_; (repeat (first | (with_reducible exact Mr.refl _) | (with_reducible apply Mr.drew) | (with_reducible apply Mr.alloc) | (with_reducible apply Mr.ext) | (with_reducible refine Mr.setCell ?_ (by first | (simp; done) | (simp; omega) | omega) _))); done) | (refine leOf ?_; (repeat (first | (with_reducible exact Mr.refl _) | (with_reducible apply Mr.drew) | (with_reducible apply Mr.alloc) | (with_reducible apply Mr.ext) | (with_reducible refine Mr.setCell ?_ (by first | (simp; done) | (simp; omega) | omega) _))); done)) _)))⟩
end Rg
end Go.Proofs.Ytnbejkhcifeeiaa
