/- The contract of the document's own answer Push of layer 14. -/
import Derived.Test.YtnbejkhcifeeiaaRefC39
namespace Go.Proofs.Ytnbejkhcifeeiaa
open Go.ChangeShapes Go.WideShapes Go.ChangeAt Go.RowKit
set_option linter.unusedVariables false
set_option linter.unusedSimpArgs false
attribute [local go_sem] Ext.cell Ext.froz Ext.lt Ext.lt1 Ext.lt2 Ext.lt3 Ext.all Ext.set_u drew_heap setCell_size Ext.set_size
namespace Rg
open Wl Ce Tk Rw
set_option maxRecDepth 100000 in
set_option maxHeartbeats 2000000 in
theorem rpush14_c {a : Option Addr} {k n : Nat} {W : List Int} (b c h : Int) (hh : h ≤ 9223372036854775807) (w : World) (g : Wl.Is w a k W) (en : W.length = n) :
    Calls Try.prog 15 #[.int .i64 b, .int .i64 c, .int .i64 h, .slice a n k] w fun e w' => ∃ a k, e = .returned (.slice a (push b c h W).length k) ∧ ∃ x : Ext w, w' = x.u ∧ Inss x.u a k (push b c h W) := by
  have none_ : push b c h W = [] → ∃ a k, Ending.returned (.slice none 0 0) = .returned (.slice a (push b c h W).length k) ∧ ∃ x : Ext w, w = x.u ∧ Inss x.u a k (push b c h W) := fun e => by
    rw [e]
    exact ⟨none, 0, rfl, ⟨w, Mr.refl w⟩, rfl, ⟨Lv.is_nil none (by simp [maxLen]) (fun _ => rfl), fun x hx => by simp at hx⟩⟩
  have hn9 : n ≤ 9223372036854775807 := by have := g.max; have := g.le; unfold maxLen at *; omega
  cases hs : may b c
  · replace none_ := none_ (by unfold push; rw [hs]; rfl)
    go_enter Try.func15, Try.ntmps15
    go_wp2_with (first | (go_at_call 28; refine (rmay14_c b c _).mono ?_; rw [hs]; rintro e w9 ⟨rfl, hw9⟩; obtain rfl : w = w9 := hw9.symm))
    go_ret
    exact none_
  · by_cases h0 : 0 ≤ h
    · by_cases h6 : n = 6
      · subst h6
        have e : push b c h W = pushL b c h W := by unfold push; rw [hs, decide_eq_true h0, decide_eq_true en]; rfl
        rw [e]
        clear none_ e
        have hb := may_iff.1 hs
        have hp := pl_bd (n := h) hs
        have hq : b + 3 + 6 * (h % c) = pl b c h := rfl
        have hown0 : ∀ vs : Array Value, vs.toList = Lv.flat 5 Ins.enc ((pushL b c h W).take 2) → (w.alloc (.cells vs 53)).ownsRow w.heap.size 53 5 (.slice (some ⟨w.heap.size, 0, none⟩) 2 2) 2 (Lv.flat 5 Ins.enc ((pushL b c h W).take 2)) := fun vs hv => lit_owns _ rfl _ 2 rfl (by decide) vs hv
        have hM := fun j hj => push_more b c h W j hj
        have hL : ∀ j, j ≤ 6 → ((pushL b c h W).take (2 + j)).length = 2 + j := fun j hj => by rw [List.length_take]; show min (2 + j) 12 = _; omega
        have hE : (pushL b c h W).take 8 ++ [⟨1, b + 1, 0, 9, h + 1⟩, ⟨6, 0, 0, 10, 1⟩, ⟨2, b + 2, 0, 11, 1⟩, ⟨6, 0, 0, 12, 0⟩] = pushL b c h W := rfl
        have hA : ∀ x ∈ pushL b c h W, x.ok := by
          intro x hx
          have u0 := g.bd 0
          have u1 := g.bd 1
          have u2 := g.bd 2
          have u3 := g.bd 3
          have u4 := g.bd 4
          have u5 := g.bd 5
          have uw := wrap_bd (h - c)
          unfold pushL at hx
          simp only [List.mem_cons, List.not_mem_nil, or_false] at hx
          rcases hx with rfl | rfl | rfl | rfl | rfl | rfl | rfl | rfl | rfl | rfl | rfl | rfl <;> (unfold Ins.ok; dsimp only; omega)
        have hok3 : ∀ x ∈ ([⟨1, b + 1, 0, 9, h + 1⟩, ⟨6, 0, 0, 10, 1⟩, ⟨2, b + 2, 0, 11, 1⟩, ⟨6, 0, 0, 12, 0⟩] : List Ins), x.ok := fun x hx => hA x (by rw [← hE]; exact List.mem_append_right _ hx)
        have hwc : wrap64 (h - c) = h - c := by unfold wrap64; omega
        go_enter Try.func15, Try.ntmps15
        go_wp2_with (first | (go_at_call 28; refine (rmay14_c b c _).mono ?_; rw [hs]; rintro e w9 ⟨rfl, hw9⟩; obtain rfl : w = w9 := hw9.symm))
        clear hwc
        replace hown0 := hown0 _ rfl
        generalize hpl : pushL b c h W = L at *
        generalize hP : pl b c h = P at *
        replace hpl : Hid _ := hpl
        replace hP : Hid _ := hP
        replace hE : Hid _ := hE
        replace hA : Hid _ := hA
        replace hL : Hid _ := hL
        replace hM : Hid _ := hM
        clear hq
        go_loopw [10, 11] (fun v i wr => ∃ j : Nat, j ≤ 6 ∧ i = .int .i64 j ∧ wr.ownsRow w.heap.size 53 5 v (2 + j) (Lv.flat 5 Ins.enc (L.take (2 + j))) ∧ Mr w wr) (fun _ i _ => (6 - intOf i).toNat)
        case atStart => exact ⟨0, by omega, rfl, hown0, (by repeat (first | (with_reducible exact Mr.refl _) | (with_reducible assumption) | (with_reducible apply Mr.drew) | (with_reducible apply Mr.alloc) | (with_reducible apply Mr.ext) | (with_reducible refine Mr.setCell ?_ (by first | (simp; done) | (simp; omega) | omega | (refine leOf0 ?_; (repeat (first | (with_reducible exact Mr.refl _) | (with_reducible apply Mr.drew) | (with_reducible apply Mr.alloc) | (with_reducible apply Mr.ext) | (with_reducible refine Mr.setCell ?_ (by first | (simp; done) | (simp; omega) | omega) _))); done) | (refine leOf ?_; (repeat (first | (with_reducible exact Mr.refl _) | (with_reducible apply Mr.drew) | (with_reducible apply Mr.alloc) | (with_reducible apply Mr.ext) | (with_reducible refine Mr.setCell ?_ (by first | (simp; done) | (simp; omega) | omega) _))); done)) _)))⟩
        case round =>
          obtain ⟨j, hj, rfl, hown, hmr⟩ := hrel
          clear hown0
          obtain ⟨a5, c5, rfl, -, -⟩ := Lv.of_owns (by decide) hown
          rw [hL.out j hj] at hown ⊢
          by_cases hlt : j < 6
          · have hT : Hid _ := hM.out j hlt
            have hlt' : (j : Int) < 6 := by omega
            have hbj := g.bd j
            obtain ⟨b1, o1, rfl, hb1, hc1⟩ := (g.mr hmr).num j (by omega)
            generalize gt W j = G at *
            have hok : Ins.ok ⟨1, P + j, 0, 3 + j, G⟩ := by unfold Ins.ok; dsimp only; omega
            have hP0 : 0 ≤ P := by omega
            have hP1 : P ≤ 1000 := by omega
            go_wp2_with (first | (at_builtin; refine append_ins rfl _ _ rfl w.heap.size _ (2 + j) _ rfl (Lv.owns_mr hown ((Mr.refl _).alloc _)) rfl (ins_new _ rfl ⟨1, P + j, 0, 3 + j, G⟩ hok _ rfl) (by omega) (by have := hmr.below.size; simp; omega) ?_; intro v' w1 hown' hgrow; have hm1 : Mr w w1 := (hmr.alloc _).grownBy hgrow (fun j e => (hown.lt j e).1); clear hgrow hown hmr))
            go_roundw
            case rel => exact ⟨j + 1, by omega, by go_num, by rw [hT.out]; exact hown', hm1⟩
            case measure => simp [intOf]; omega
          · obtain rfl : j = 6 := by omega
            have hu : IntKind.u64.wrap (h + 1) = h + 1 := by rw [IntKind.wrap_u64]; omega
            go_wp2_with (first | (at_builtin; refine append_inss rfl _ _ rfl w.heap.size _ 8 4 _ [⟨1, b + 1, 0, 9, h + 1⟩, ⟨6, 0, 0, 10, 1⟩, ⟨2, b + 2, 0, 11, 1⟩, ⟨6, 0, 0, 12, 0⟩] rfl (Lv.owns_mr hown ((Mr.refl _).alloc _)) rfl rfl (by decide) (inss_lit _ rfl _ hok3 (by simp) 4 rfl _ rfl) (by decide) (by have := hmr.below.size; simp; omega) ?_; intro v' w1 hown' hgrow; have hm1 : Mr w w1 := (hmr.alloc _).grownBy hgrow (fun j e => (hown.lt j e).1); clear hgrow hown hmr; rw [hE.out] at hown'; obtain ⟨a7, c7, rfl, -, hI7⟩ := Lv.of_owns (by decide) hown'; clear hown'; rw [show L.length = 12 from by rw [← hpl.out]; rfl]))
            go_ret
            exact ⟨_, _, rfl, ⟨_, hm1⟩, rfl, by rw [hpl.out]; exact hI7, by rw [hpl.out]; exact hA.out⟩
      · replace none_ := none_ (by unfold push; rw [hs, decide_eq_true h0, decide_eq_false (by omega)]; rfl)
        have hne : ((n : Int) != 6) = true := by simp; omega
        go_enter Try.func15, Try.ntmps15
        go_wp2_with (first | (go_at_call 28; refine (rmay14_c b c _).mono ?_; rw [hs]; rintro e w9 ⟨rfl, hw9⟩; obtain rfl : w = w9 := hw9.symm))
        go_ret
        exact none_
    · replace none_ := none_ (by unfold push; rw [hs, decide_eq_false h0]; rfl)
      replace h0 : h < 0 := by omega
      go_enter Try.func15, Try.ntmps15
      go_wp2_with (first | (go_at_call 28; refine (rmay14_c b c _).mono ?_; rw [hs]; rintro e w9 ⟨rfl, hw9⟩; obtain rfl : w = w9 := hw9.symm))
      go_ret
      exact none_
end Rg
end Go.Proofs.Ytnbejkhcifeeiaa
