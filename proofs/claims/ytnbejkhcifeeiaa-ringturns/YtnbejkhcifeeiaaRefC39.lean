/- The contracts of the document's own answers of layer 14. -/
import Derived.Test.YtnbejkhcifeeiaaRingM
import Derived.Test.YtnbejkhcifeeiaaInsA
namespace Go.Proofs.Ytnbejkhcifeeiaa
open Go.ChangeShapes Go.WideShapes Go.ChangeAt Go.RowKit
set_option linter.unusedVariables false
set_option linter.unusedSimpArgs false
attribute [local go_sem] Ext.cell Ext.froz Ext.lt Ext.lt1 Ext.lt2 Ext.lt3 Ext.all Ext.set_u drew_heap setCell_size Ext.set_size
namespace Rg
open Wl Ce Tk Rw
set_option maxHeartbeats 1000000 in
theorem rmay14_c (b c : Int) (w : World) :
    Calls Try.prog 28 #[.int .i64 b, .int .i64 c] w fun e w' => e = .returned (.bool (may b c)) ∧ w' = w := by
  have no : ¬ ((0 ≤ b ∧ b ≤ 255) ∧ 1 ≤ c ∧ c ≤ 8) → may b c = false := fun h => by
    cases e : may b c
    · rfl
    · exact absurd (may_iff.1 e) h
  by_cases h1 : 0 ≤ b
  · by_cases h2 : b ≤ 255
    · by_cases h3 : 1 ≤ c
      · by_cases h4 : c ≤ 8
        · have e : may b c = true := may_iff.2 ⟨⟨h1, h2⟩, h3, h4⟩
          rw [e]; clear no e
          go_enter Try.func28, Try.ntmps28
          go_wp2
          go_ret
          first | exact ⟨rfl, rfl⟩ | exact ⟨by rw [h5.out]; rfl, rfl⟩
        · have e := no (by omega)
          rw [e]; clear no e
          have h5 : Hid (decide (c ≤ 8) = false) := decide_eq_false (by omega)
          replace h4 : 8 < c := by omega
          go_enter Try.func28, Try.ntmps28
          go_wp2
          go_ret
          first | exact ⟨rfl, rfl⟩ | exact ⟨by rw [h5.out]; rfl, rfl⟩
      · have e := no (by omega)
        rw [e]; clear no e
        replace h3 : c < 1 := by omega
        go_enter Try.func28, Try.ntmps28
        go_wp2
        go_ret
        first | exact ⟨rfl, rfl⟩ | exact ⟨by rw [h5.out]; rfl, rfl⟩
    · have e := no (by omega)
      rw [e]; clear no e
      replace h2 : 255 < b := by omega
      go_enter Try.func28, Try.ntmps28
      go_wp2
      go_ret
      first | exact ⟨rfl, rfl⟩ | exact ⟨by rw [h5.out]; rfl, rfl⟩
  · have e := no (by omega)
    rw [e]; clear no e
    replace h1 : b < 0 := by omega
    go_enter Try.func28, Try.ntmps28
    go_wp2
    go_ret
    first | exact ⟨rfl, rfl⟩ | exact ⟨by rw [h5.out]; rfl, rfl⟩
set_option maxHeartbeats 1000000 in
theorem rsize14_c (c : Int) (w : World) :
    Calls Try.prog 12 #[.int .i64 c] w fun e w' => e = .returned (.int .i64 (size c)) ∧ w' = w := by
  cases hs : may 0 c
  · have e : size c = 0 := by unfold size; rw [hs]; rfl
    rw [e]
    go_enter Try.func12, Try.ntmps12
    go_wp2_with (first | (go_at_call 28; refine (rmay14_c 0 c _).mono ?_; rw [hs]; rintro e w' ⟨rfl, rfl⟩))
    go_ret
    exact ⟨rfl, rfl⟩
  · have e : size c = 3 + 6 * c := by unfold size; rw [hs]; rfl
    have := may_iff.1 hs
    have hw1 : wrap64 (6 * c) = 6 * c := by unfold wrap64; omega
    have hw2 : wrap64 (3 + 6 * c) = 3 + 6 * c := by unfold wrap64; omega
    rw [e]
    go_enter Try.func12, Try.ntmps12
    go_wp2_with (first | (go_at_call 28; refine (rmay14_c 0 c _).mono ?_; rw [hs]; rintro e w' ⟨rfl, rfl⟩))
    go_ret
    exact ⟨rfl, rfl⟩
set_option maxRecDepth 100000 in
set_option maxHeartbeats 2000000 in
theorem rtaken14_c {a : Option Addr} {c : Nat} {t : T} (w : World) (h : Tis w a c t) :
    Calls Try.prog 10 #[.agg (TV a c t)] w fun e w' => ∃ a' c', e = .returned (.tuple #[.slice a' (taken t).length c', .bool (tells t)]) ∧ ∃ x : Ext w, w' = x.u ∧ Wl.Is x.u a' c' (taken t) := by
  obtain ⟨hI, hT⟩ := h
  have h34 := TV_34 (ca := a) (cc := c) hT.len
  have h35 := TV_35 (ca := a) (cc := c) hT.len
  have hR : Row (w.alloc (.cells (TV a c t) 27)) w.heap.size 27 (TV a c t) := Row.new _ _ _
  have hm : Mr w (w.alloc (.cells (TV a c t) 27)) := (Mr.refl w).alloc _
  have hr : ∀ j, j < 32 → (w.alloc (.cells (TV a c t) 27)).cell? ⟨w.heap.size, 2 + j, none⟩ = some (.int .u64 (gt t.R j)) := fun j hj => (hR.cell _).trans (TV_R hT.len hj)
  have r1 := hr 1 (by omega)
  have r2 := hr 2 (by omega)
  have r3 := hr 3 (by omega)
  have r4 := hr 4 (by omega)
  have r5 := hr 5 (by omega)
  have r6 := hr 6 (by omega)
  have hb := hT.reg
  replace h34 := (hR.cell 34).trans h34
  replace h35 := (hR.cell 35).trans h35
  have hB : w.heap.size < (w.alloc (.cells (TV a c t) 27)).heap.size := by simp
  clear hr hR
  generalize hV : TV a c t = V at *
  have hx : Mr w (w.alloc (.cells V 27)) := hm
  cases hd : t.done
  · have e1 : tells t = false := by unfold tells; rw [hd]; rfl
    have e2 : taken t = [] := by unfold taken; rw [e1]; rfl
    rw [e1, e2]
    rw [hd] at h34
    go_enter Try.func10, Try.ntmps10
    go_wp2
    exact bodyPost_ret (v := .tuple #[.slice none 0 0, .bool false]) (by simp [results, Try.results10, go_sem]) rfl ⟨none, 0, rfl, ⟨_, hm⟩, rfl, Wl.is_nil none (by simp [maxLen]) (fun _ => rfl)⟩
  · rw [hd] at h34
    by_cases ha : t.ans = 1
    · have e1 : tells t = true := by unfold tells; rw [hd, ha]; rfl
      have e2 : taken t = [gt t.R 1, gt t.R 2, gt t.R 3, gt t.R 4, gt t.R 5, gt t.R 6] := by unfold taken; rw [e1]; rfl
      rw [e1, e2]
      rw [ha] at h35
      have hw : ∀ W : World, Mr w W → ∀ vs : Array Value, vs.toList = [gt t.R 1, gt t.R 2, gt t.R 3, gt t.R 4, gt t.R 5, gt t.R 6].map (Value.int .u64) → Wl.Is (W.alloc (.cells vs 24)) (some ⟨W.heap.size, 0, none⟩) 6 [gt t.R 1, gt t.R 2, gt t.R 3, gt t.R 4, gt t.R 5, gt t.R 6] := fun W _ vs hv =>
        lit_is _ rfl _ 6 rfl (by simp [hb 1, hb 2, hb 3, hb 4, hb 5, hb 6]) (by simp) vs hv
      generalize gt t.R 1 = g1 at *
      generalize gt t.R 2 = g2 at *
      generalize gt t.R 3 = g3 at *
      generalize gt t.R 4 = g4 at *
      generalize gt t.R 5 = g5 at *
      generalize gt t.R 6 = g6 at *
      clear hI hT hb hd ha hV e1 e2
      go_enter Try.func10, Try.ntmps10
      go_wp2
      exact bodyPost_ret (v := .tuple #[.slice (some ⟨w.heap.size + 1, 0, none⟩) 6 6, .bool true]) (by simp [results, Try.results10, go_sem]) rfl ⟨_, _, rfl, ⟨_, hm.alloc _⟩, rfl, by have := hw _ hx _ rfl; simpa using this⟩
    · have e1 : tells t = false := by unfold tells; rw [hd, decide_eq_false ha]; rfl
      have e2 : taken t = [] := by unfold taken; rw [e1]; rfl
      rw [e1, e2]
      have hne : (t.ans != 1) = true := by simpa using ha
      go_enter Try.func10, Try.ntmps10
      go_wp2
      exact bodyPost_ret (v := .tuple #[.slice none 0 0, .bool false]) (by simp [results, Try.results10, go_sem]) rfl ⟨none, 0, rfl, ⟨_, hm⟩, rfl, Wl.is_nil none (by simp [maxLen]) (fun _ => rfl)⟩
theorem pop_more (b c h : Int) (j : Nat) (hj : j < 6) : (popL b c h).take (2 + (j + 1)) = (popL b c h).take (2 + j) ++ [⟨0, pl b c h + j, 1 + j, 3 + j, 0⟩] := by
  have : j = 0 ∨ j = 1 ∨ j = 2 ∨ j = 3 ∨ j = 4 ∨ j = 5 := by omega
  rcases this with rfl | rfl | rfl | rfl | rfl | rfl <;> rfl
theorem push_more (b c t : Int) (w : List Int) (j : Nat) (hj : j < 6) : (pushL b c t w).take (2 + (j + 1)) = (pushL b c t w).take (2 + j) ++ [⟨1, pl b c t + j, 0, 3 + j, gt w j⟩] := by
  have : j = 0 ∨ j = 1 ∨ j = 2 ∨ j = 3 ∨ j = 4 ∨ j = 5 := by omega
  rcases this with rfl | rfl | rfl | rfl | rfl | rfl <;> rfl
set_option maxRecDepth 100000 in
set_option maxHeartbeats 2000000 in
theorem rpop14_c (b c h : Int) (hh : h ≤ 9223372036854775807) (w : World) :
    Calls Try.prog 17 #[.int .i64 b, .int .i64 c, .int .i64 h] w fun e w' => ∃ a k, e = .returned (.slice a (pop b c h).length k) ∧ ∃ x : Ext w, w' = x.u ∧ Inss x.u a k (pop b c h) := by
  have none_ : pop b c h = [] → ∃ a k, Ending.returned (.slice none 0 0) = .returned (.slice a (pop b c h).length k) ∧ ∃ x : Ext w, w = x.u ∧ Inss x.u a k (pop b c h) := fun e => by
    rw [e]
    exact ⟨none, 0, rfl, ⟨w, Mr.refl w⟩, rfl, ⟨Lv.is_nil none (by simp [maxLen]) (fun _ => rfl), fun x hx => by simp at hx⟩⟩
  cases hs : may b c
  · replace none_ := none_ (by unfold pop; rw [hs]; rfl)
    go_enter Try.func17, Try.ntmps17
    go_wp2_with (first | (go_at_call 28; refine (rmay14_c b c _).mono ?_; rw [hs]; rintro e w9 ⟨rfl, hw9⟩; obtain rfl : w = w9 := hw9.symm))
    go_ret
    exact none_
  · by_cases h0 : 0 ≤ h
    · have e : pop b c h = popL b c h := by unfold pop; rw [hs, decide_eq_true h0]; rfl
      rw [e]
      clear none_ e
      have hb := may_iff.1 hs
      have hp := pl_bd (n := h) hs
      have hq : b + 3 + 6 * (h % c) = pl b c h := rfl
      have hown0 : ∀ vs : Array Value, vs.toList = Lv.flat 5 Ins.enc ((popL b c h).take 2) → (w.alloc (.cells vs 53)).ownsRow w.heap.size 53 5 (.slice (some ⟨w.heap.size, 0, none⟩) 2 2) 2 (Lv.flat 5 Ins.enc ((popL b c h).take 2)) := fun vs hv => lit_owns _ rfl _ 2 rfl (by decide) vs hv
      have hM := fun j hj => pop_more b c h j hj
      have hL : ∀ j, j ≤ 6 → ((popL b c h).take (2 + j)).length = 2 + j := fun j hj => by rw [List.length_take]; show min (2 + j) 11 = _; omega
      have hE : (popL b c h).take 8 ++ [⟨1, b, 0, 9, h + 1⟩, ⟨6, 0, 0, 10, 1⟩, ⟨6, 0, 0, 11, 0⟩] = popL b c h := rfl
      have hA : ∀ x ∈ popL b c h, x.ok := by
        intro x hx
        unfold popL at hx
        simp only [List.mem_cons, List.not_mem_nil, or_false] at hx
        rcases hx with rfl | rfl | rfl | rfl | rfl | rfl | rfl | rfl | rfl | rfl | rfl <;> (unfold Ins.ok; dsimp only; omega)
      have hok3 : ∀ x ∈ ([⟨1, b, 0, 9, h + 1⟩, ⟨6, 0, 0, 10, 1⟩, ⟨6, 0, 0, 11, 0⟩] : List Ins), x.ok := fun x hx => hA x (by rw [← hE]; exact List.mem_append_right _ hx)
      go_enter Try.func17, Try.ntmps17
      go_wp2_with (first | (go_at_call 28; refine (rmay14_c b c _).mono ?_; rw [hs]; rintro e w9 ⟨rfl, hw9⟩; obtain rfl : w = w9 := hw9.symm))
      replace hown0 := hown0 _ rfl
      generalize hpl : popL b c h = L at *
      generalize hP : pl b c h = P at *
      replace hpl : Hid _ := hpl
      replace hP : Hid _ := hP
      replace hE : Hid _ := hE
      replace hA : Hid _ := hA
      replace hL : Hid _ := hL
      replace hM : Hid _ := hM
      clear hq
      go_loopw [8, 9] (fun v i wr => ∃ j : Nat, j ≤ 6 ∧ i = .int .i64 j ∧ wr.ownsRow w.heap.size 53 5 v (2 + j) (Lv.flat 5 Ins.enc (L.take (2 + j))) ∧ Mr w wr) (fun _ i _ => (6 - intOf i).toNat)
      case atStart => exact ⟨0, by omega, rfl, hown0, (by repeat (first | (with_reducible exact Mr.refl _) | (with_reducible assumption) | (with_reducible apply Mr.drew) | (with_reducible apply Mr.alloc) | (with_reducible apply Mr.ext) | (with_reducible refine Mr.setCell ?_ (by first | (simp; done) | (simp; omega) | omega | (refine leOf0 ?_; (repeat (first | (with_reducible exact Mr.refl _) | (with_reducible apply Mr.drew) | (with_reducible apply Mr.alloc) | (with_reducible apply Mr.ext) | (with_reducible refine Mr.setCell ?_ (by first | (simp; done) | (simp; omega) | omega) _))); done) | (refine leOf ?_; (repeat (first | (with_reducible exact Mr.refl _) | (with_reducible apply Mr.drew) | (with_reducible apply Mr.alloc) | (with_reducible apply Mr.ext) | (with_reducible refine Mr.setCell ?_ (by first | (simp; done) | (simp; omega) | omega) _))); done)) _)))⟩
      case round =>
        obtain ⟨j, hj, rfl, hown, hmr⟩ := hrel
        clear hown0
        obtain ⟨a5, c5, rfl, -, -⟩ := Lv.of_owns (by decide) hown
        rw [hL.out j hj] at hown ⊢
        by_cases hlt : j < 6
        · have hT : Hid _ := hM.out j hlt
          have hok : Ins.ok ⟨0, P + j, 1 + j, 3 + j, 0⟩ := by unfold Ins.ok; dsimp only; omega
          have hw1 : wrap64 (P + j) = P + j := by unfold wrap64; omega
          have hw2 : wrap64 (1 + (j : Int)) = 1 + j := by unfold wrap64; omega
          have hw3 : wrap64 (3 + (j : Int)) = 3 + j := by unfold wrap64; omega
          go_wp2_with (first | (at_builtin; refine append_ins rfl _ _ rfl w.heap.size _ (2 + j) _ rfl (Lv.owns_mr hown ((Mr.refl _).alloc _)) rfl (ins_new _ rfl ⟨0, P + j, 1 + j, 3 + j, 0⟩ hok _ rfl) (by omega) (by have := hmr.below.size; simp; omega) ?_; intro v' w1 hown' hgrow; have hm1 : Mr w w1 := (hmr.alloc _).grownBy hgrow (fun j e => (hown.lt j e).1); clear hgrow hown hmr))
          go_roundw
          case rel => exact ⟨j + 1, by omega, by go_num, by rw [hT.out]; exact hown', hm1⟩
          case measure => simp [intOf]; omega
        · obtain rfl : j = 6 := by omega
          have hu : IntKind.u64.wrap (h + 1) = h + 1 := by rw [IntKind.wrap_u64]; omega
          go_wp2_with (first | (at_builtin; refine append_inss rfl _ _ rfl w.heap.size _ 8 3 _ [⟨1, b, 0, 9, h + 1⟩, ⟨6, 0, 0, 10, 1⟩, ⟨6, 0, 0, 11, 0⟩] rfl (Lv.owns_mr hown ((Mr.refl _).alloc _)) rfl rfl (by decide) (inss_lit _ rfl _ hok3 (by simp) 3 rfl _ rfl) (by decide) (by have := hmr.below.size; simp; omega) ?_; intro v' w1 hown' hgrow; have hm1 : Mr w w1 := (hmr.alloc _).grownBy hgrow (fun j e => (hown.lt j e).1); clear hgrow hown hmr; rw [hE.out] at hown'; obtain ⟨a7, c7, rfl, -, hI7⟩ := Lv.of_owns (by decide) hown'; clear hown'; rw [show L.length = 11 from by rw [← hpl.out]; rfl]))
          go_ret
          exact ⟨_, _, rfl, ⟨_, hm1⟩, rfl, by rw [hpl.out]; exact hI7, by rw [hpl.out]; exact hA.out⟩
    · replace none_ := none_ (by unfold pop; rw [hs, decide_eq_false h0]; rfl)
      replace h0 : h < 0 := by omega
      go_enter Try.func17, Try.ntmps17
      go_wp2_with (first | (go_at_call 28; refine (rmay14_c b c _).mono ?_; rw [hs]; rintro e w9 ⟨rfl, hw9⟩; obtain rfl : w = w9 := hw9.symm))
      go_ret
      exact none_
end Rg
end Go.Proofs.Ytnbejkhcifeeiaa
