/- The statements' own examples of layer 5. -/
import Derived.Test.YtdedfnogaonphaaDoorTrigC
namespace Go.Proofs.YtdedfnogaonphaaDoor
open Go.ChangeShapes Go.WideShapes Go.ChangeAt Go.RowKit
open Go.Proofs.YtdedfnogaonphaaDoor.Fx Go.Proofs.YtdedfnogaonphaaDoor.Wd
set_option linter.unusedVariables false
attribute [local go_sem] Ext.cell Ext.froz Ext.lt Ext.lt1 Ext.lt2 Ext.lt3 Ext.all Ext.set_u drew_heap setCell_size Ext.set_size
namespace Tg
theorem ret_b2 {p q : Bool} (h : p = q) : Ending.returned (.bool p) = .returned (.bool q) := by rw [h]
def nrb (a b d : Int) : Bool := decide (a - b ≤ d ∧ b - a ≤ d)
theorem at_bd (y x : Int) : 0 ≤ at' y x ∧ at' y x < 4294967296 := by
  unfold at'
  repeat' split
  all_goals first | omega | exact agl_bd _
set_option maxHeartbeats 1000000 in
theorem near_c (a b d : Int) (w : World) (ha : -2305843009213693952 ≤ a ∧ a ≤ 2305843009213693952) (hb : -2305843009213693952 ≤ b ∧ b ≤ 2305843009213693952) :
    Calls Tryd.prog 22 #[.int .i64 a, .int .i64 b, .int .i64 d] w fun e w' => e = .returned (.bool (nrb a b d)) ∧ w' = w := by
  go_enter Tryd.func22, Tryd.ntmps22
  go_wp2
  all_goals
    go_ret
    refine ⟨ret_b2 ?_, rfl⟩
    unfold nrb; simp; omega
theorem aw5_all : ∃ s1 c1 s0 c0 a1 : Int, bs 1073741824 = s1 ∧ bc 1073741824 = c1 ∧ at' 4294967296 4294967296 = a1 ∧ bs 0 = s0 ∧ bc 0 = c0 ∧ nrb s1 4294967296 8 = true ∧ nrb c1 0 8 = true ∧ nrb a1 536870912 8 = true ∧ nrb s0 0 8 = true ∧ nrb c0 4294967296 8 = true ∧ agl (-1) = 4294967295 ∧ at' 0 0 = 0 ∧ (4294967288 ≤ s1 ∧ s1 ≤ 4294967304) ∧ (-8 ≤ c1 ∧ c1 ≤ 8) ∧ (536870904 ≤ a1 ∧ a1 ≤ 536870920) ∧ (-8 ≤ s0 ∧ s0 ≤ 8) ∧ (4294967288 ≤ c0 ∧ c0 ≤ 4294967304) := by
  obtain ⟨h1, h2, h3, h4, h5, h6, h7⟩ := aw5_num
  refine ⟨_, _, _, _, _, rfl, rfl, rfl, rfl, rfl, ?_, ?_, ?_, ?_, ?_, h4, h5, h1, h2, h3, h6, h7⟩
  all_goals
    unfold nrb
    rw [decide_eq_true_eq]
    omega
set_option maxHeartbeats 1000000 in
theorem awake5_c (w : World) (hT : Tb w) : Calls Tryd.prog 10 #[] w fun e w' => e = .returned (.bool true) ∧ ∃ x : Ext w, w' = x.u := by
  obtain ⟨s1, c1, s0, c0, a1, n1, n2, n3, n4, n5, n6, n7, n8, n9, n10, n11, n12, ⟨b1, b2⟩, ⟨b3, b4⟩, ⟨b5, b6⟩, ⟨b7, b8⟩, ⟨b9, b10⟩⟩ := aw5_all
  go_enter Tryd.func10, Tryd.ntmps10
  go_wp2_with (first | (go_at_call 11; refine (both_c _ _ ?_).mono ?_; (repeat (first | assumption | apply Tb.ext | apply Tb.alloc | apply Tb.drew)); rintro e w' ⟨rfl, x, rfl⟩) | (go_at_call 22; refine (near_c _ _ _ _ ?_ ?_).mono ?_; (exact ⟨by omega, by omega⟩); (exact ⟨by omega, by omega⟩); rintro e w' ⟨rfl, rfl⟩) | (go_at_call 17; refine (atan_c _ _ _ ?_).mono ?_; (repeat (first | assumption | apply Tb.ext | apply Tb.alloc | apply Tb.drew)); rintro e w' ⟨rfl, x, rfl⟩) | (go_at_call 13; refine (angle_c _ _).mono ?_; rintro e w' ⟨rfl, rfl⟩) | (go_at_call 15; refine (sin_c _ _ ?_).mono ?_; (repeat (first | assumption | apply Tb.ext | apply Tb.alloc | apply Tb.drew)); rintro e w' ⟨rfl, x, rfl⟩) | (go_at_call 16; refine (cos_c _ _ ?_).mono ?_; (repeat (first | assumption | apply Tb.ext | apply Tb.alloc | apply Tb.drew)); rintro e w' ⟨rfl, x, rfl⟩))
  go_ret
  exact ⟨rfl, Mr.mk' (by repeat (first | (with_reducible exact Mr.refl _) | (with_reducible apply Mr.drew) | (with_reducible apply Mr.alloc) | (with_reducible apply Mr.ext) | (with_reducible refine Mr.setCell ?_ (by first | (simp; done) | (simp; omega) | omega | (refine leOf0 ?_; (repeat (first | (with_reducible exact Mr.refl _) | (with_reducible apply Mr.drew) | (with_reducible apply Mr.alloc) | (with_reducible apply Mr.ext) | (with_reducible refine Mr.setCell ?_ (by first | (simp; done) | (simp; omega) | omega) _))); done) | (refine leOf ?_; (repeat (first | (with_reducible exact Mr.refl _) | (with_reducible apply Mr.drew) | (with_reducible apply Mr.alloc) | (with_reducible apply Mr.ext) | (with_reducible refine Mr.setCell ?_ (by first | (simp; done) | (simp; omega) | omega) _))); done)) _)))⟩
end Tg
end Go.Proofs.YtdedfnogaonphaaDoor
