/- The contracts of the document's own answers of layer 5. -/
import Derived.Test.YtdedfnogaonphaaDoorTrigM7
import Derived.Test.YtdedfnogaonphaaDoorRefC1
import Derived.Test.YtdedfnogaonphaaDoorMemC
import Derived.Test.YtdedfnogaonphaaDoorWideC3
namespace Go.Proofs.YtdedfnogaonphaaDoor
open Go.ChangeShapes Go.WideShapes Go.ChangeAt Go.RowKit
open Go.Proofs.YtdedfnogaonphaaDoor.Fx Go.Proofs.YtdedfnogaonphaaDoor.Wd
set_option linter.unusedVariables false
attribute [local go_sem] Ext.cell Ext.froz Ext.lt Ext.lt1 Ext.lt2 Ext.lt3 Ext.all Ext.set_u drew_heap setCell_size Ext.set_size
namespace Tg
set_option maxHeartbeats 1000000 in
theorem halved_c (n : Int) (k : Nat) (w : World) (hk : k ≤ 64) (hn : -4611686018427387904 ≤ n ∧ n ≤ 4611686018427387904) :
    Calls Tryd.prog 27 #[.int .i64 n, .int .i64 k] w fun e w' => e = .returned (.int .i64 (n / 2 ^ k)) ∧ w' = w := by
  have s0 : Hid (n / 2 ^ 0 = n) := by rw [Hid]; simp
  go_enter Tryd.func27, Tryd.ntmps27
  go_wp2
  go_loop [0, 5] (fun m i => ∃ j : Nat, j ≤ k ∧ m = .int .i64 (n / 2 ^ j) ∧ i = .int .i64 j) (fun _ i => (k - intOf i).toNat)
  case atStart => exact ⟨0, by omega, by rw [s0.out], rfl⟩
  case round =>
    obtain ⟨j, hj, rfl, rfl⟩ := hrel
    have hb := dn_bd j (M := 4611686018427387904) (by omega) hn.1 hn.2
    have hb' := dn_bd (j + 1) (M := 4611686018427387904) (by omega) hn.1 hn.2
    by_cases hlt : j < k
    · have hlt' : (j : Int) < k := by omega
      rcases half n j with ⟨h1, h2, h3⟩ | ⟨h1, h3⟩
      · generalize hm' : n / 2 ^ (j + 1) = m' at *
        generalize hm : n / 2 ^ j = m at *
        have d1 : (m.tmod 2 != 0) = true := by simp [h2]
        clear h2
        go_wp2
        go_round
        case rel => exact ⟨j + 1, by omega, by rw [hm'], by go_num⟩
        case measure => simp [intOf]; omega
      · generalize hm' : n / 2 ^ (j + 1) = m' at *
        generalize hm : n / 2 ^ j = m at *
        by_cases h0 : m < 0
        · have h2 : m.tmod 2 = 0 := Decidable.byContradiction fun h => h1 ⟨h0, h⟩
          clear h1
          go_wp2
          go_round
          case rel => exact ⟨j + 1, by omega, by rw [hm'], by go_num⟩
          case measure => simp [intOf]; omega
        · clear h1
          go_wp2
          go_round
          case rel => exact ⟨j + 1, by omega, by rw [hm'], by go_num⟩
          case measure => simp [intOf]; omega
    · obtain rfl : j = k := by omega
      go_wp2
      go_ret
      exact ⟨rfl, rfl⟩
theorem tab_get (j : Nat) (hj : j < 32) : (angs.map fun a => Value.int .i64 a).toArray[j]? = some (.int .i64 (an j)) := by
  have hl : angs.length = 32 := by decide +kernel
  have : angs[j]? = some (an j) := by
    unfold an
    rw [List.getD_eq_getElem?_getD, List.getElem?_eq_getElem (by omega)]; rfl
  rw [List.getElem?_toArray, List.getElem?_map, this]; rfl
theorem tab_cell (w : World) (j : Nat) (hj : j < 32) : (w.alloc (.cells (angs.map fun a => Value.int .i64 a).toArray 3)).cell? ⟨w.heap.size, j, none⟩ = some (.int .i64 (an j)) := by
  have h := tab_get j hj
  generalize (angs.map fun a => Value.int .i64 a).toArray = A at *
  simp [go_sem, h]
set_option maxRecDepth 100000 in
set_option maxHeartbeats 1000000 in
theorem table_c (w : World) : Calls Tryd.prog 38 #[] w fun e w' => e = .returned (.slice (some ⟨w.heap.size, 0, none⟩) 32 32) ∧ ∃ x : Ext w, w' = x.u ∧ w.heap.size < x.u.heap.size ∧ ∀ j : Nat, j < 32 → x.u.cell? ⟨w.heap.size, j, none⟩ = some (.int .i64 (an j)) := by
  go_enter Tryd.func38, Tryd.ntmps38
  go_wp2
  go_ret
  refine ⟨rfl, ?_⟩
  have h : ∃ x : Ext w, w.alloc (.cells (angs.map fun a => Value.int .i64 a).toArray 3) = x.u := Mr.mk' (by repeat (first | (with_reducible exact Mr.refl _) | (with_reducible apply Mr.drew) | (with_reducible apply Mr.alloc) | (with_reducible apply Mr.ext) | (with_reducible refine Mr.setCell ?_ (by first | (simp; done) | (simp; omega) | omega | (refine leOf0 ?_; (repeat (first | (with_reducible exact Mr.refl _) | (with_reducible apply Mr.drew) | (with_reducible apply Mr.alloc) | (with_reducible apply Mr.ext) | (with_reducible refine Mr.setCell ?_ (by first | (simp; done) | (simp; omega) | omega) _))); done) | (refine leOf ?_; (repeat (first | (with_reducible exact Mr.refl _) | (with_reducible apply Mr.drew) | (with_reducible apply Mr.alloc) | (with_reducible apply Mr.ext) | (with_reducible refine Mr.setCell ?_ (by first | (simp; done) | (simp; omega) | omega) _))); done)) _)))
  obtain ⟨x, hx⟩ := h
  have hx2 := hx
  refine ⟨x, hx2, ?_, fun j hj => ?_⟩
  · rw [← hx]; simp [go_sem]
  · rw [← hx]; exact tab_cell w j hj
theorem agl_cases (t : Int) : ∃ r : Int, t.tmod 4294967296 = r ∧ ((0 ≤ r ∧ r < 4294967296 ∧ Hid (agl t = r)) ∨ (r < 0 ∧ -4294967296 < r ∧ Hid (agl t = r + 4294967296))) := by
  refine ⟨_, rfl, ?_⟩
  rcases Int.lt_or_le t 0 with h | h
  · have e : t.tmod 4294967296 = -((-t) % 4294967296) := by
      have := Int.neg_tmod (a := -t) (b := 4294967296)
      rw [Int.neg_neg] at this
      rw [this, Int.tmod_eq_emod_of_nonneg (by omega)]
    rw [e]
    simp only [Hid]
    unfold agl
    omega
  · rw [Int.tmod_eq_emod_of_nonneg h]
    simp only [Hid]
    unfold agl
    omega
set_option maxHeartbeats 1000000 in
theorem rangle_c (t : Int) (w : World) : Calls Tryd.prog 14 #[.int .i64 t] w fun e w' => e = .returned (.int .i64 (agl t)) ∧ w' = w := by
  obtain ⟨r, e1, ⟨h0, h1, E⟩ | ⟨h0, h1, E⟩⟩ := agl_cases t
  all_goals
    go_enter Tryd.func14, Tryd.ntmps14
    go_wp2
    go_ret
    exact ⟨ret_i' E.out.symm, rfl⟩
theorem halved16_c (n : Int) (w : World) (hn : -4611686018427387904 ≤ n ∧ n ≤ 4611686018427387904) :
    Calls Tryd.prog 27 #[.int .i64 n, .int .i64 16] w fun e w' => e = .returned (.int .i64 (n / 2 ^ 16)) ∧ w' = w := halved_c n 16 w (by omega) hn
theorem stp_pos {n : Nat} {x y z : Int} (h : 0 ≤ z) : stp n (x, y, z) = (x - y / 2 ^ n, y + x / 2 ^ n, z - an n) := by unfold stp; rw [if_pos h]
theorem stp_neg {n : Nat} {x y z : Int} (h : ¬ 0 ≤ z) : stp n (x, y, z) = (x + y / 2 ^ n, y - x / 2 ^ n, z + an n) := by unfold stp; rw [if_neg h]
theorem ret_ii {a b c d : Int} (h : a = c) (g : b = d) : Ending.returned (.tuple #[.int .i64 a, .int .i64 b]) = .returned (.tuple #[.int .i64 c, .int .i64 d]) := by rw [h, g]
set_option maxHeartbeats 2000000 in
theorem steps_c (z : Int) (w : World) (hz : -35184372088832 ≤ z ∧ z ≤ 35184372088832) :
    Calls Tryd.prog 26 #[.int .i64 z] w fun e w' => e = .returned (.tuple #[.int .i64 (fw z 32).1, .int .i64 (fw z 32).2.1]) ∧ ∃ x : Ext w, w' = x.u := by
  go_enter Tryd.func26, Tryd.ntmps26
  go_wp2_with (go_at_call 38; refine (table_c _).mono ?_; rintro e w' ⟨rfl, x, rfl, hsz, htab⟩)
  go_loop [0, 4, 5, 7] (fun zs xs ys i => ∃ j : Nat, j ≤ 32 ∧ zs = .int .i64 (fw z j).2.2 ∧ xs = .int .i64 (fw z j).1 ∧ ys = .int .i64 (fw z j).2.1 ∧ i = .int .i64 j) (fun _ _ _ i => (32 - intOf i).toNat)
  case atStart => exact ⟨0, by omega, rfl, rfl, rfl, rfl⟩
  case round =>
    obtain ⟨j, hj, rfl, rfl, rfl, rfl⟩ := hrel
    obtain ⟨⟨x0, x1⟩, ⟨y0, y1⟩, ⟨z0, z1⟩⟩ := fw_ok hz.1 hz.2 hj
    have H : Hid (fw z (j + 1) = stp j (fw z j)) := rfl
    by_cases hlt : j < 32
    · have hc := htab j hlt
      have ha := an_bd j hlt
      have dx := dn_bd j (M := 1125899906842624) (by omega) x0 x1
      have dy := dn_bd j (M := 1125899906842624) (by omega) y0 y1
      generalize hs : fw z j = s at *
      obtain ⟨X, Y, Z⟩ := s
      simp only at x0 x1 y0 y1 z0 z1 dx dy
      generalize hA : an j = A at *
      clear htab
      by_cases hp : 0 ≤ Z
      · have H2 : Hid (fw z (j + 1) = (X - Y / 2 ^ j, Y + X / 2 ^ j, Z - A)) := by rw [Hid, H.out, stp_pos hp, hA]
        generalize hdX : X / 2 ^ j = dX at *
        generalize hdY : Y / 2 ^ j = dY at *
        go_wp2_with (go_at_call 27; refine (halved_c _ _ _ ?_ ?_).mono ?_; omega; (exact ⟨by omega, by omega⟩); rintro e w' ⟨rfl, rfl⟩)
        go_round
        case rel => exact ⟨j + 1, by omega, by rw [H2.out], by rw [H2.out], by rw [H2.out], by go_num⟩
        case measure => simp [intOf]; omega
      · have H2 : Hid (fw z (j + 1) = (X + Y / 2 ^ j, Y - X / 2 ^ j, Z + A)) := by rw [Hid, H.out, stp_neg hp, hA]
        generalize hdX : X / 2 ^ j = dX at *
        generalize hdY : Y / 2 ^ j = dY at *
        go_wp2_with (go_at_call 27; refine (halved_c _ _ _ ?_ ?_).mono ?_; omega; (exact ⟨by omega, by omega⟩); rintro e w' ⟨rfl, rfl⟩)
        go_round
        case rel => exact ⟨j + 1, by omega, by rw [H2.out], by rw [H2.out], by rw [H2.out], by go_num⟩
        case measure => simp [intOf]; omega
    · obtain rfl : j = 32 := by omega
      go_wp2
      go_ret2
      exact ⟨rfl, x, rfl⟩
theorem both_math (t : Int) : ∃ u q z X Y c s : Int, agl t = u ∧ (0 ≤ u ∧ u < 4294967296) ∧ (u + 536870912).tdiv 1073741824 = q ∧ (u + 536870912) / 1073741824 = q ∧ (0 ≤ q ∧ q ≤ 4) ∧ (u - q * 1073741824) * 65536 = z ∧ (-536870912 ≤ u - q * 1073741824 ∧ u - q * 1073741824 < 536870912) ∧ (-35184372088832 ≤ z ∧ z ≤ 35184372088832) ∧ (fw z 32).1 = X ∧ (fw z 32).2.1 = Y ∧ (-1125899906842624 ≤ X ∧ X ≤ 1125899906842624) ∧ (-1125899906842624 ≤ Y ∧ Y ≤ 1125899906842624) ∧ (X + 32768) / 65536 = c ∧ (Y + 32768) / 65536 = s ∧ (-1125899906842624 ≤ c ∧ c ≤ 1125899906842624) ∧ (-1125899906842624 ≤ s ∧ s ≤ 1125899906842624) ∧ Hid (bs t = if q = 1 then c else if q = 2 then -s else if q = 3 then -c else s) ∧ Hid (bc t = if q = 1 then -s else if q = 2 then -c else if q = 3 then s else c) := by
  have hb := agl_bd t
  obtain ⟨h0, h1, h2, h3, h4⟩ := qz hb.1 hb.2
  obtain ⟨⟨x0, x1⟩, ⟨y0, y1⟩, _⟩ := fw_ok h2 (by omega) (n := 32) (by omega)
  have eq : qd (agl t) = (agl t + 536870912) / 1073741824 := rfl
  refine ⟨agl t, qd (agl t), zq (agl t), _, _, _, _, rfl, hb, ?_, rfl, ⟨h0, h1⟩, h4.symm, ?_, ⟨h2, by omega⟩, rfl, rfl, ⟨x0, x1⟩, ⟨y0, y1⟩, rfl, rfl, ?_, ?_, rfl, rfl⟩
  · rw [Int.tdiv_eq_ediv_of_nonneg (by omega)]; rfl
  · omega
  · omega
  · omega
set_option maxHeartbeats 2000000 in
theorem rboth_c (t : Int) (w : World) :
    Calls Tryd.prog 12 #[.int .i64 t] w fun e w' => e = .returned (.tuple #[.int .i64 (bs t), .int .i64 (bc t)]) ∧ ∃ x : Ext w, w' = x.u := by
  obtain ⟨u, q, z, X, Y, c, s, e1, ⟨u0, u1⟩, e2, e2', ⟨q0, q1⟩, e3, ⟨d0, d1⟩, ⟨z0, z1⟩, e4, e5, ⟨x0, x1⟩, ⟨y0, y1⟩, e6, e7, ⟨c0, c1⟩, ⟨s0, s1⟩, E8, E9⟩ := both_math t
  clear e2'
  by_cases k1 : q = 1
  · have f1 : (q == 1) = true := by simp [k1]
    rw [if_pos k1] at E8 E9
    clear k1
    go_enter Tryd.func12, Tryd.ntmps12; go_wp2_with (first | (go_at_call 14; refine (rangle_c _ _).mono ?_; rintro e w' ⟨rfl, rfl⟩) | (go_at_call 26; refine (steps_c _ _ ?_).mono ?_; (exact ⟨by omega, by omega⟩); rintro e w' ⟨rfl, x, rfl⟩) | (go_at_call 27; refine (halved16_c _ _ ?_).mono ?_; (exact ⟨by omega, by omega⟩); rintro e w' ⟨rfl, rfl⟩)); go_ret2; exact ⟨ret_ii E8.out.symm E9.out.symm, Mr.mk' (by repeat (first | (with_reducible exact Mr.refl _) | (with_reducible apply Mr.drew) | (with_reducible apply Mr.alloc) | (with_reducible apply Mr.ext) | (with_reducible refine Mr.setCell ?_ (by first | (simp; done) | (simp; omega) | omega | (refine leOf0 ?_; (repeat (first | (with_reducible exact Mr.refl _) | (with_reducible apply Mr.drew) | (with_reducible apply Mr.alloc) | (with_reducible apply Mr.ext) | (with_reducible refine Mr.setCell ?_ (by first | (simp; done) | (simp; omega) | omega) _))); done) | (refine leOf ?_; (repeat (first | (with_reducible exact Mr.refl _) | (with_reducible apply Mr.drew) | (with_reducible apply Mr.alloc) | (with_reducible apply Mr.ext) | (with_reducible refine Mr.setCell ?_ (by first | (simp; done) | (simp; omega) | omega) _))); done)) _)))⟩
  · rw [if_neg k1] at E8 E9
    have f1 : (q == 1) = false := by simp [k1]
    clear k1
    by_cases k2 : q = 2
    · have f2 : (q == 2) = true := by simp [k2]
      rw [if_pos k2] at E8 E9
      clear k2
      go_enter Tryd.func12, Tryd.ntmps12; go_wp2_with (first | (go_at_call 14; refine (rangle_c _ _).mono ?_; rintro e w' ⟨rfl, rfl⟩) | (go_at_call 26; refine (steps_c _ _ ?_).mono ?_; (exact ⟨by omega, by omega⟩); rintro e w' ⟨rfl, x, rfl⟩) | (go_at_call 27; refine (halved16_c _ _ ?_).mono ?_; (exact ⟨by omega, by omega⟩); rintro e w' ⟨rfl, rfl⟩)); go_ret2; exact ⟨ret_ii E8.out.symm E9.out.symm, Mr.mk' (by repeat (first | (with_reducible exact Mr.refl _) | (with_reducible apply Mr.drew) | (with_reducible apply Mr.alloc) | (with_reducible apply Mr.ext) | (with_reducible refine Mr.setCell ?_ (by first | (simp; done) | (simp; omega) | omega | (refine leOf0 ?_; (repeat (first | (with_reducible exact Mr.refl _) | (with_reducible apply Mr.drew) | (with_reducible apply Mr.alloc) | (with_reducible apply Mr.ext) | (with_reducible refine Mr.setCell ?_ (by first | (simp; done) | (simp; omega) | omega) _))); done) | (refine leOf ?_; (repeat (first | (with_reducible exact Mr.refl _) | (with_reducible apply Mr.drew) | (with_reducible apply Mr.alloc) | (with_reducible apply Mr.ext) | (with_reducible refine Mr.setCell ?_ (by first | (simp; done) | (simp; omega) | omega) _))); done)) _)))⟩
    · rw [if_neg k2] at E8 E9
      have f2 : (q == 2) = false := by simp [k2]
      clear k2
      by_cases k3 : q = 3
      · have f3 : (q == 3) = true := by simp [k3]
        rw [if_pos k3] at E8 E9
        clear k3
        go_enter Tryd.func12, Tryd.ntmps12; go_wp2_with (first | (go_at_call 14; refine (rangle_c _ _).mono ?_; rintro e w' ⟨rfl, rfl⟩) | (go_at_call 26; refine (steps_c _ _ ?_).mono ?_; (exact ⟨by omega, by omega⟩); rintro e w' ⟨rfl, x, rfl⟩) | (go_at_call 27; refine (halved16_c _ _ ?_).mono ?_; (exact ⟨by omega, by omega⟩); rintro e w' ⟨rfl, rfl⟩)); go_ret2; exact ⟨ret_ii E8.out.symm E9.out.symm, Mr.mk' (by repeat (first | (with_reducible exact Mr.refl _) | (with_reducible apply Mr.drew) | (with_reducible apply Mr.alloc) | (with_reducible apply Mr.ext) | (with_reducible refine Mr.setCell ?_ (by first | (simp; done) | (simp; omega) | omega | (refine leOf0 ?_; (repeat (first | (with_reducible exact Mr.refl _) | (with_reducible apply Mr.drew) | (with_reducible apply Mr.alloc) | (with_reducible apply Mr.ext) | (with_reducible refine Mr.setCell ?_ (by first | (simp; done) | (simp; omega) | omega) _))); done) | (refine leOf ?_; (repeat (first | (with_reducible exact Mr.refl _) | (with_reducible apply Mr.drew) | (with_reducible apply Mr.alloc) | (with_reducible apply Mr.ext) | (with_reducible refine Mr.setCell ?_ (by first | (simp; done) | (simp; omega) | omega) _))); done)) _)))⟩
      · rw [if_neg k3] at E8 E9
        have f3 : (q == 3) = false := by simp [k3]
        clear k3
        go_enter Tryd.func12, Tryd.ntmps12; go_wp2_with (first | (go_at_call 14; refine (rangle_c _ _).mono ?_; rintro e w' ⟨rfl, rfl⟩) | (go_at_call 26; refine (steps_c _ _ ?_).mono ?_; (exact ⟨by omega, by omega⟩); rintro e w' ⟨rfl, x, rfl⟩) | (go_at_call 27; refine (halved16_c _ _ ?_).mono ?_; (exact ⟨by omega, by omega⟩); rintro e w' ⟨rfl, rfl⟩)); go_ret2; exact ⟨ret_ii E8.out.symm E9.out.symm, Mr.mk' (by repeat (first | (with_reducible exact Mr.refl _) | (with_reducible apply Mr.drew) | (with_reducible apply Mr.alloc) | (with_reducible apply Mr.ext) | (with_reducible refine Mr.setCell ?_ (by first | (simp; done) | (simp; omega) | omega | (refine leOf0 ?_; (repeat (first | (with_reducible exact Mr.refl _) | (with_reducible apply Mr.drew) | (with_reducible apply Mr.alloc) | (with_reducible apply Mr.ext) | (with_reducible refine Mr.setCell ?_ (by first | (simp; done) | (simp; omega) | omega) _))); done) | (refine leOf ?_; (repeat (first | (with_reducible exact Mr.refl _) | (with_reducible apply Mr.drew) | (with_reducible apply Mr.alloc) | (with_reducible apply Mr.ext) | (with_reducible refine Mr.setCell ?_ (by first | (simp; done) | (simp; omega) | omega) _))); done)) _)))⟩
theorem bst_pos {n : Nat} {a b z : Int} (h : 0 < b) : bst n (a, b, z) = (a + b / 2 ^ n, b - a / 2 ^ n, z + an n) := by unfold bst; rw [if_pos h]
theorem bst_neg {n : Nat} {a b z : Int} (h : ¬ 0 < b) : bst n (a, b, z) = (a - b / 2 ^ n, b + a / 2 ^ n, z - an n) := by unfold bst; rw [if_neg h]
set_option maxHeartbeats 2000000 in
theorem back_c (a b : Int) (w : World) (ha : 0 ≤ a ∧ a ≤ 288230376151711744) (hb : 0 ≤ b ∧ b ≤ 288230376151711744) :
    Calls Tryd.prog 31 #[.int .i64 a, .int .i64 b] w fun e w' => e = .returned (.int .i64 (bk a b)) ∧ ∃ x : Ext w, w' = x.u := by
  go_enter Tryd.func31, Tryd.ntmps31
  go_wp2_with (go_at_call 38; refine (table_c _).mono ?_; rintro e w' ⟨rfl, x, rfl, hsz, htab⟩)
  go_loop [0, 1, 5, 7] (fun xs ys zs i => ∃ j : Nat, j ≤ 32 ∧ zs = .int .i64 (bw a b j).2.2 ∧ xs = .int .i64 (bw a b j).1 ∧ ys = .int .i64 (bw a b j).2.1 ∧ i = .int .i64 j) (fun _ _ _ i => (32 - intOf i).toNat)
  case atStart => exact ⟨0, by omega, rfl, rfl, rfl, rfl⟩
  case round =>
    obtain ⟨j, hj, rfl, rfl, rfl, rfl⟩ := hrel
    obtain ⟨⟨x0, x1⟩, ⟨y0, y1⟩, ⟨z0, z1⟩⟩ := bw_ok ha.1 ha.2 hb.1 hb.2 hj
    have H : Hid (bw a b (j + 1) = bst j (bw a b j)) := rfl
    by_cases hlt : j < 32
    · have hc := htab j hlt
      have hA0 := an_bd j hlt
      have dx := dn_bd j (M := 2305843009213693952) (by omega) x0 x1
      have dy := dn_bd j (M := 2305843009213693952) (by omega) y0 y1
      generalize hs : bw a b j = s at *
      obtain ⟨X, Y, Z⟩ := s
      simp only at x0 x1 y0 y1 z0 z1 dx dy
      generalize hA : an j = A at *
      clear htab
      by_cases hp : 0 < Y
      · have H2 : Hid (bw a b (j + 1) = (X + Y / 2 ^ j, Y - X / 2 ^ j, Z + A)) := by rw [Hid, H.out, bst_pos hp, hA]
        generalize hdX : X / 2 ^ j = dX at *
        generalize hdY : Y / 2 ^ j = dY at *
        go_wp2_with (go_at_call 27; refine (halved_c _ _ _ ?_ ?_).mono ?_; omega; (exact ⟨by omega, by omega⟩); rintro e w' ⟨rfl, rfl⟩)
        go_round
        case rel => exact ⟨j + 1, by omega, by rw [H2.out], by rw [H2.out], by rw [H2.out], by go_num⟩
        case measure => simp [intOf]; omega
      · have H2 : Hid (bw a b (j + 1) = (X - Y / 2 ^ j, Y + X / 2 ^ j, Z - A)) := by rw [Hid, H.out, bst_neg hp, hA]
        generalize hdX : X / 2 ^ j = dX at *
        generalize hdY : Y / 2 ^ j = dY at *
        go_wp2_with (go_at_call 27; refine (halved_c _ _ _ ?_ ?_).mono ?_; omega; (exact ⟨by omega, by omega⟩); rintro e w' ⟨rfl, rfl⟩)
        go_round
        case rel => exact ⟨j + 1, by omega, by rw [H2.out], by rw [H2.out], by rw [H2.out], by go_num⟩
        case measure => simp [intOf]; omega
    · obtain rfl : j = 32 := by omega
      go_wp2
      go_ret
      exact ⟨rfl, x, rfl⟩
theorem bk_bd {a b : Int} (ha : 0 ≤ a ∧ a ≤ 288230376151711744) (hb : 0 ≤ b ∧ b ≤ 288230376151711744) : -1125899906842624 ≤ bk a b ∧ bk a b ≤ 1125899906842624 := (bw_ok ha.1 ha.2 hb.1 hb.2 (n := 32) (by omega)).2.2
theorem bk_math {a b : Int} (ha : 0 ≤ a ∧ a ≤ 288230376151711744) (hb : 0 ≤ b ∧ b ≤ 288230376151711744) : ∃ K v : Int, bk a b = K ∧ (K + 32768) / 65536 = v ∧ -1125899906842624 ≤ K ∧ K ≤ 1125899906842624 ∧ -1125899906842624 ≤ v ∧ v ≤ 1125899906842624 := by
  have := bk_bd ha hb
  exact ⟨_, _, rfl, rfl, this.1, this.2, by omega, by omega⟩
/-- What the doubling has come to. -/
theorem dbl_le (f : Nat) : ∀ a b : Int, 0 ≤ a → 0 ≤ b → a ≤ 288230376151711744 → b ≤ 288230376151711744 → (0 ≤ (dbl f a b).1 ∧ (dbl f a b).1 ≤ 288230376151711744) ∧ (0 ≤ (dbl f a b).2 ∧ (dbl f a b).2 ≤ 288230376151711744) := by
  induction f with
  | zero => intro a b h0 h1 h2 h3; simp only [dbl]; omega
  | succ f ih =>
    intro a b h0 h1 h2 h3
    rw [dbl]
    split
    · exact ih _ _ (by omega) (by omega) (by omega) (by omega)
    · simp only; omega
theorem dbl_step {f : Nat} {a b : Int} (h0 : 0 < max a b) (h1 : max a b < 144115188075855872) (hf : 144115188075855872 ≤ max a b * 2 ^ f) : ∃ g, f = g + 1 ∧ dbl f a b = dbl g (2 * a) (2 * b) ∧ 144115188075855872 ≤ max (2 * a) (2 * b) * 2 ^ g := by
  cases f with
  | zero => simp at hf; omega
  | succ g =>
    refine ⟨g, rfl, ?_, ?_⟩
    · rw [dbl, if_pos h1]
    · rw [show max (2 * a) (2 * b) = max a b * 2 by omega, Int.mul_assoc, Int.mul_comm 2, ← Int.pow_succ]; exact hf
theorem ab_bd' (a : Int) : 0 ≤ ab a ∧ ab a ≤ 288230376151711744 := ab_bd a
theorem max_cases (a b : Int) : (b ≤ a ∧ max a b = a) ∨ (a < b ∧ ¬ b ≤ a ∧ max a b = b) := by omega
theorem at_zero {y x : Int} (h : ab x = 0) (g : ab y = 0) : 0 = at' y x := by unfold at'; rw [if_pos ⟨h, g⟩]
theorem at_pp {y x : Int} (k : ¬ (ab x = 0 ∧ ab y = 0)) (h : 0 ≤ x) (g : 0 ≤ y) : agl (va (ab x) (ab y)) = at' y x := by unfold at'; rw [if_neg k, if_pos ⟨h, g⟩]
theorem at_np {y x : Int} (k : ¬ (ab x = 0 ∧ ab y = 0)) (h : x < 0) (g : 0 ≤ y) : agl (2147483648 - va (ab x) (ab y)) = at' y x := by unfold at'; rw [if_neg k, if_neg (by omega), if_pos ⟨h, g⟩]
theorem at_nn {y x : Int} (k : ¬ (ab x = 0 ∧ ab y = 0)) (h : x < 0) (g : y < 0) : agl (2147483648 + va (ab x) (ab y)) = at' y x := by unfold at'; rw [if_neg k, if_neg (by omega), if_neg (by omega), if_pos h]
theorem at_pn {y x : Int} (k : ¬ (ab x = 0 ∧ ab y = 0)) (h : 0 ≤ x) (g : y < 0) : agl (-va (ab x) (ab y)) = at' y x := by unfold at'; rw [if_neg k, if_neg (by omega), if_neg (by omega), if_neg (by omega)]
set_option maxRecDepth 100000 in
set_option maxHeartbeats 4000000 in
theorem ratan_c (y x : Int) (w : World) :
    Calls Tryd.prog 18 #[.int .i64 y, .int .i64 x] w fun e w' => e = .returned (.int .i64 (at' y x)) ∧ ∃ x : Ext w, w' = x.u := by
  have hx := ab_bd' x
  have hy := ab_bd' y
  by_cases hz : ab x = 0 ∧ ab y = 0
  · obtain ⟨hz1, hz2⟩ := hz
    have E : Hid (0 = at' y x) := at_zero hz1 hz2
    go_enter Tryd.func18, Tryd.ntmps18
    go_wp2_with (go_at_call 30; refine (rabs_c _ _).mono ?_; rintro e w' ⟨rfl, rfl⟩)
    go_ret
    exact ⟨ret_i' E.out, Mr.mk' (by repeat (first | (with_reducible exact Mr.refl _) | (with_reducible apply Mr.drew) | (with_reducible apply Mr.alloc) | (with_reducible apply Mr.ext) | (with_reducible refine Mr.setCell ?_ (by first | (simp; done) | (simp; omega) | omega | (refine leOf0 ?_; (repeat (first | (with_reducible exact Mr.refl _) | (with_reducible apply Mr.drew) | (with_reducible apply Mr.alloc) | (with_reducible apply Mr.ext) | (with_reducible refine Mr.setCell ?_ (by first | (simp; done) | (simp; omega) | omega) _))); done) | (refine leOf ?_; (repeat (first | (with_reducible exact Mr.refl _) | (with_reducible apply Mr.drew) | (with_reducible apply Mr.alloc) | (with_reducible apply Mr.ext) | (with_reducible refine Mr.setCell ?_ (by first | (simp; done) | (simp; omega) | omega) _))); done)) _)))⟩
  · have hb0 : (ab x == 0 && ab y == 0) = false := by
      rw [Bool.eq_false_iff]; simpa using hz
    have Hz : Hid (¬ (ab x = 0 ∧ ab y = 0)) := hz
    have hm : 0 < max (ab x) (ab y) := by omega
    have hf : 144115188075855872 ≤ max (ab x) (ab y) * 2 ^ 64 := by
      have : (2 : Int) ^ 64 = 18446744073709551616 := by decide
      rw [this]; omega
    have HV : Hid (∀ A B : Int, dbl 64 (ab x) (ab y) = (A, B) → (bk A B + 32768) / 65536 = va (ab x) (ab y)) := fun A B h => by unfold va; rw [h]
    generalize ha : ab x = a at *
    generalize hb : ab y = b at *
    have Hm : Hid (0 < max a b) := hm
    have Hf : Hid (144115188075855872 ≤ max a b * 2 ^ 64) := hf
    have hc : ((a == 0) = true ∧ (b == 0) = false) ∨ ((a == 0) = false ∧ True) := by
      cases k : a == 0
      · exact .inr ⟨rfl, trivial⟩
      · rw [k] at hb0; exact .inl ⟨rfl, by simpa using hb0⟩
    clear hz hm hf hb0
    rcases hc with ⟨c1, c2⟩ | ⟨c1, c2⟩
    all_goals
      go_enter Tryd.func18, Tryd.ntmps18
      go_wp2_with (go_at_call 30; refine (rabs_c _ _).mono ?_; rintro e w' ⟨rfl, rfl⟩)
      go_loop [5, 6] (fun s5 s6 => ∃ (A B : Int) (f : Nat), s5 = .int .i64 A ∧ s6 = .int .i64 B ∧ (0 ≤ A ∧ A ≤ 288230376151711744) ∧ (0 ≤ B ∧ B ≤ 288230376151711744) ∧ Hid (0 < max A B) ∧ Hid (dbl f A B = dbl 64 a b) ∧ Hid (144115188075855872 ≤ max A B * 2 ^ f)) (fun s5 s6 => (1152921504606846976 - intOf s5 - intOf s6).toNat)
      case atStart => exact ⟨a, b, 64, rfl, rfl, hx, hy, Hm, rfl, Hf⟩
      case round =>
        obtain ⟨A, B, f, rfl, rfl, ⟨a0, a1⟩, ⟨b0, b1⟩, M1, M2, M3⟩ := hrel
        clear c1 c2
        rcases max_cases A B with ⟨o, om⟩ | ⟨o, o', om⟩
        · have OM : Hid (max A B = A) := om
          clear om
          by_cases hl : A < 144115188075855872
          · obtain ⟨g, g1, g2, g3⟩ := dbl_step M1.out (by rw [OM.out]; exact hl) M3.out
            have G : Hid (dbl g (2 * A) (2 * B) = dbl 64 a b ∧ 144115188075855872 ≤ max (2 * A) (2 * B) * 2 ^ g) := ⟨by rw [← g2, M2.out], g3⟩
            clear g1 g2 g3
            go_wp2
            go_round
            case rel => exact ⟨2 * A, 2 * B, g, rfl, rfl, ⟨by omega, by omega⟩, ⟨by omega, by omega⟩, by have := M1.out; rw [Hid]; omega, G.out.1, G.out.2⟩
            case measure => have := M1.out; simp [intOf]; omega
          · have hv : (bk A B + 32768) / 65536 = va a b := HV.out A B (by rw [← M2.out]; exact dbl_stop _ _ _ (by rw [OM.out]; omega))
            obtain ⟨K, v, e1, e2, k0, k1, v0, v1⟩ := bk_math ⟨a0, a1⟩ ⟨b0, b1⟩
            rw [e1, e2] at hv
            have P : Hid (va a b = v) := hv.symm
            clear hv HV M1 M2 M3 Hm Hf
            by_cases sx : x < 0
            · by_cases sy : y < 0
              · have E : Hid (agl (2147483648 + v) = at' y x) := by rw [Hid, ← P.out, ← ha, ← hb]; exact at_nn (by rw [ha, hb]; exact Hz.out) sx sy
                go_wp2_with (first | (go_at_call 31; refine (back_c _ _ _ ?_ ?_).mono ?_; (exact ⟨by omega, by omega⟩); (exact ⟨by omega, by omega⟩); rintro e w' ⟨rfl, x, rfl⟩) | (go_at_call 27; refine (halved16_c _ _ ?_).mono ?_; (exact ⟨by omega, by omega⟩); rintro e w' ⟨rfl, rfl⟩) | (go_at_call 14; refine (rangle_c _ _).mono ?_; rintro e w' ⟨rfl, rfl⟩))
                go_ret; exact ⟨ret_i' E.out, Mr.mk' (by repeat (first | (with_reducible exact Mr.refl _) | (with_reducible apply Mr.drew) | (with_reducible apply Mr.alloc) | (with_reducible apply Mr.ext) | (with_reducible refine Mr.setCell ?_ (by first | (simp; done) | (simp; omega) | omega | (refine leOf0 ?_; (repeat (first | (with_reducible exact Mr.refl _) | (with_reducible apply Mr.drew) | (with_reducible apply Mr.alloc) | (with_reducible apply Mr.ext) | (with_reducible refine Mr.setCell ?_ (by first | (simp; done) | (simp; omega) | omega) _))); done) | (refine leOf ?_; (repeat (first | (with_reducible exact Mr.refl _) | (with_reducible apply Mr.drew) | (with_reducible apply Mr.alloc) | (with_reducible apply Mr.ext) | (with_reducible refine Mr.setCell ?_ (by first | (simp; done) | (simp; omega) | omega) _))); done)) _)))⟩
              · have E : Hid (agl (2147483648 - v) = at' y x) := by rw [Hid, ← P.out, ← ha, ← hb]; exact at_np (by rw [ha, hb]; exact Hz.out) sx (by omega)
                have sy' : 0 ≤ y := by omega
                go_wp2_with (first | (go_at_call 31; refine (back_c _ _ _ ?_ ?_).mono ?_; (exact ⟨by omega, by omega⟩); (exact ⟨by omega, by omega⟩); rintro e w' ⟨rfl, x, rfl⟩) | (go_at_call 27; refine (halved16_c _ _ ?_).mono ?_; (exact ⟨by omega, by omega⟩); rintro e w' ⟨rfl, rfl⟩) | (go_at_call 14; refine (rangle_c _ _).mono ?_; rintro e w' ⟨rfl, rfl⟩))
                go_ret; exact ⟨ret_i' E.out, Mr.mk' (by repeat (first | (with_reducible exact Mr.refl _) | (with_reducible apply Mr.drew) | (with_reducible apply Mr.alloc) | (with_reducible apply Mr.ext) | (with_reducible refine Mr.setCell ?_ (by first | (simp; done) | (simp; omega) | omega | (refine leOf0 ?_; (repeat (first | (with_reducible exact Mr.refl _) | (with_reducible apply Mr.drew) | (with_reducible apply Mr.alloc) | (with_reducible apply Mr.ext) | (with_reducible refine Mr.setCell ?_ (by first | (simp; done) | (simp; omega) | omega) _))); done) | (refine leOf ?_; (repeat (first | (with_reducible exact Mr.refl _) | (with_reducible apply Mr.drew) | (with_reducible apply Mr.alloc) | (with_reducible apply Mr.ext) | (with_reducible refine Mr.setCell ?_ (by first | (simp; done) | (simp; omega) | omega) _))); done)) _)))⟩
            · have sx' : 0 ≤ x := by omega
              by_cases sy : y < 0
              · have E : Hid (agl (-v) = at' y x) := by rw [Hid, ← P.out, ← ha, ← hb]; exact at_pn (by rw [ha, hb]; exact Hz.out) sx' sy
                go_wp2_with (first | (go_at_call 31; refine (back_c _ _ _ ?_ ?_).mono ?_; (exact ⟨by omega, by omega⟩); (exact ⟨by omega, by omega⟩); rintro e w' ⟨rfl, x, rfl⟩) | (go_at_call 27; refine (halved16_c _ _ ?_).mono ?_; (exact ⟨by omega, by omega⟩); rintro e w' ⟨rfl, rfl⟩) | (go_at_call 14; refine (rangle_c _ _).mono ?_; rintro e w' ⟨rfl, rfl⟩))
                go_ret; exact ⟨ret_i' E.out, Mr.mk' (by repeat (first | (with_reducible exact Mr.refl _) | (with_reducible apply Mr.drew) | (with_reducible apply Mr.alloc) | (with_reducible apply Mr.ext) | (with_reducible refine Mr.setCell ?_ (by first | (simp; done) | (simp; omega) | omega | (refine leOf0 ?_; (repeat (first | (with_reducible exact Mr.refl _) | (with_reducible apply Mr.drew) | (with_reducible apply Mr.alloc) | (with_reducible apply Mr.ext) | (with_reducible refine Mr.setCell ?_ (by first | (simp; done) | (simp; omega) | omega) _))); done) | (refine leOf ?_; (repeat (first | (with_reducible exact Mr.refl _) | (with_reducible apply Mr.drew) | (with_reducible apply Mr.alloc) | (with_reducible apply Mr.ext) | (with_reducible refine Mr.setCell ?_ (by first | (simp; done) | (simp; omega) | omega) _))); done)) _)))⟩
              · have E : Hid (agl v = at' y x) := by rw [Hid, ← P.out, ← ha, ← hb]; exact at_pp (by rw [ha, hb]; exact Hz.out) sx' (by omega)
                have sy' : 0 ≤ y := by omega
                go_wp2_with (first | (go_at_call 31; refine (back_c _ _ _ ?_ ?_).mono ?_; (exact ⟨by omega, by omega⟩); (exact ⟨by omega, by omega⟩); rintro e w' ⟨rfl, x, rfl⟩) | (go_at_call 27; refine (halved16_c _ _ ?_).mono ?_; (exact ⟨by omega, by omega⟩); rintro e w' ⟨rfl, rfl⟩) | (go_at_call 14; refine (rangle_c _ _).mono ?_; rintro e w' ⟨rfl, rfl⟩))
                go_ret; exact ⟨ret_i' E.out, Mr.mk' (by repeat (first | (with_reducible exact Mr.refl _) | (with_reducible apply Mr.drew) | (with_reducible apply Mr.alloc) | (with_reducible apply Mr.ext) | (with_reducible refine Mr.setCell ?_ (by first | (simp; done) | (simp; omega) | omega | (refine leOf0 ?_; (repeat (first | (with_reducible exact Mr.refl _) | (with_reducible apply Mr.drew) | (with_reducible apply Mr.alloc) | (with_reducible apply Mr.ext) | (with_reducible refine Mr.setCell ?_ (by first | (simp; done) | (simp; omega) | omega) _))); done) | (refine leOf ?_; (repeat (first | (with_reducible exact Mr.refl _) | (with_reducible apply Mr.drew) | (with_reducible apply Mr.alloc) | (with_reducible apply Mr.ext) | (with_reducible refine Mr.setCell ?_ (by first | (simp; done) | (simp; omega) | omega) _))); done)) _)))⟩
        · have OM : Hid (max A B = B) := om
          clear om
          by_cases hl : B < 144115188075855872
          · obtain ⟨g, g1, g2, g3⟩ := dbl_step M1.out (by rw [OM.out]; exact hl) M3.out
            have G : Hid (dbl g (2 * A) (2 * B) = dbl 64 a b ∧ 144115188075855872 ≤ max (2 * A) (2 * B) * 2 ^ g) := ⟨by rw [← g2, M2.out], g3⟩
            clear g1 g2 g3
            go_wp2
            go_round
            case rel => exact ⟨2 * A, 2 * B, g, rfl, rfl, ⟨by omega, by omega⟩, ⟨by omega, by omega⟩, by have := M1.out; rw [Hid]; omega, G.out.1, G.out.2⟩
            case measure => have := M1.out; simp [intOf]; omega
          · have hv : (bk A B + 32768) / 65536 = va a b := HV.out A B (by rw [← M2.out]; exact dbl_stop _ _ _ (by rw [OM.out]; omega))
            obtain ⟨K, v, e1, e2, k0, k1, v0, v1⟩ := bk_math ⟨a0, a1⟩ ⟨b0, b1⟩
            rw [e1, e2] at hv
            have P : Hid (va a b = v) := hv.symm
            clear hv HV M1 M2 M3 Hm Hf
            by_cases sx : x < 0
            · by_cases sy : y < 0
              · have E : Hid (agl (2147483648 + v) = at' y x) := by rw [Hid, ← P.out, ← ha, ← hb]; exact at_nn (by rw [ha, hb]; exact Hz.out) sx sy
                go_wp2_with (first | (go_at_call 31; refine (back_c _ _ _ ?_ ?_).mono ?_; (exact ⟨by omega, by omega⟩); (exact ⟨by omega, by omega⟩); rintro e w' ⟨rfl, x, rfl⟩) | (go_at_call 27; refine (halved16_c _ _ ?_).mono ?_; (exact ⟨by omega, by omega⟩); rintro e w' ⟨rfl, rfl⟩) | (go_at_call 14; refine (rangle_c _ _).mono ?_; rintro e w' ⟨rfl, rfl⟩))
                go_ret; exact ⟨ret_i' E.out, Mr.mk' (by repeat (first | (with_reducible exact Mr.refl _) | (with_reducible apply Mr.drew) | (with_reducible apply Mr.alloc) | (with_reducible apply Mr.ext) | (with_reducible refine Mr.setCell ?_ (by first | (simp; done) | (simp; omega) | omega | (refine leOf0 ?_; (repeat (first | (with_reducible exact Mr.refl _) | (with_reducible apply Mr.drew) | (with_reducible apply Mr.alloc) | (with_reducible apply Mr.ext) | (with_reducible refine Mr.setCell ?_ (by first | (simp; done) | (simp; omega) | omega) _))); done) | (refine leOf ?_; (repeat (first | (with_reducible exact Mr.refl _) | (with_reducible apply Mr.drew) | (with_reducible apply Mr.alloc) | (with_reducible apply Mr.ext) | (with_reducible refine Mr.setCell ?_ (by first | (simp; done) | (simp; omega) | omega) _))); done)) _)))⟩
              · have E : Hid (agl (2147483648 - v) = at' y x) := by rw [Hid, ← P.out, ← ha, ← hb]; exact at_np (by rw [ha, hb]; exact Hz.out) sx (by omega)
                have sy' : 0 ≤ y := by omega
                go_wp2_with (first | (go_at_call 31; refine (back_c _ _ _ ?_ ?_).mono ?_; (exact ⟨by omega, by omega⟩); (exact ⟨by omega, by omega⟩); rintro e w' ⟨rfl, x, rfl⟩) | (go_at_call 27; refine (halved16_c _ _ ?_).mono ?_; (exact ⟨by omega, by omega⟩); rintro e w' ⟨rfl, rfl⟩) | (go_at_call 14; refine (rangle_c _ _).mono ?_; rintro e w' ⟨rfl, rfl⟩))
                go_ret; exact ⟨ret_i' E.out, Mr.mk' (by repeat (first | (with_reducible exact Mr.refl _) | (with_reducible apply Mr.drew) | (with_reducible apply Mr.alloc) | (with_reducible apply Mr.ext) | (with_reducible refine Mr.setCell ?_ (by first | (simp; done) | (simp; omega) | omega | (refine leOf0 ?_; (repeat (first | (with_reducible exact Mr.refl _) | (with_reducible apply Mr.drew) | (with_reducible apply Mr.alloc) | (with_reducible apply Mr.ext) | (with_reducible refine Mr.setCell ?_ (by first | (simp; done) | (simp; omega) | omega) _))); done) | (refine leOf ?_; (repeat (first | (with_reducible exact Mr.refl _) | (with_reducible apply Mr.drew) | (with_reducible apply Mr.alloc) | (with_reducible apply Mr.ext) | (with_reducible refine Mr.setCell ?_ (by first | (simp; done) | (simp; omega) | omega) _))); done)) _)))⟩
            · have sx' : 0 ≤ x := by omega
              by_cases sy : y < 0
              · have E : Hid (agl (-v) = at' y x) := by rw [Hid, ← P.out, ← ha, ← hb]; exact at_pn (by rw [ha, hb]; exact Hz.out) sx' sy
                go_wp2_with (first | (go_at_call 31; refine (back_c _ _ _ ?_ ?_).mono ?_; (exact ⟨by omega, by omega⟩); (exact ⟨by omega, by omega⟩); rintro e w' ⟨rfl, x, rfl⟩) | (go_at_call 27; refine (halved16_c _ _ ?_).mono ?_; (exact ⟨by omega, by omega⟩); rintro e w' ⟨rfl, rfl⟩) | (go_at_call 14; refine (rangle_c _ _).mono ?_; rintro e w' ⟨rfl, rfl⟩))
                go_ret; exact ⟨ret_i' E.out, Mr.mk' (by repeat (first | (with_reducible exact Mr.refl _) | (with_reducible apply Mr.drew) | (with_reducible apply Mr.alloc) | (with_reducible apply Mr.ext) | (with_reducible refine Mr.setCell ?_ (by first | (simp; done) | (simp; omega) | omega | (refine leOf0 ?_; (repeat (first | (with_reducible exact Mr.refl _) | (with_reducible apply Mr.drew) | (with_reducible apply Mr.alloc) | (with_reducible apply Mr.ext) | (with_reducible refine Mr.setCell ?_ (by first | (simp; done) | (simp; omega) | omega) _))); done) | (refine leOf ?_; (repeat (first | (with_reducible exact Mr.refl _) | (with_reducible apply Mr.drew) | (with_reducible apply Mr.alloc) | (with_reducible apply Mr.ext) | (with_reducible refine Mr.setCell ?_ (by first | (simp; done) | (simp; omega) | omega) _))); done)) _)))⟩
              · have E : Hid (agl v = at' y x) := by rw [Hid, ← P.out, ← ha, ← hb]; exact at_pp (by rw [ha, hb]; exact Hz.out) sx' (by omega)
                have sy' : 0 ≤ y := by omega
                go_wp2_with (first | (go_at_call 31; refine (back_c _ _ _ ?_ ?_).mono ?_; (exact ⟨by omega, by omega⟩); (exact ⟨by omega, by omega⟩); rintro e w' ⟨rfl, x, rfl⟩) | (go_at_call 27; refine (halved16_c _ _ ?_).mono ?_; (exact ⟨by omega, by omega⟩); rintro e w' ⟨rfl, rfl⟩) | (go_at_call 14; refine (rangle_c _ _).mono ?_; rintro e w' ⟨rfl, rfl⟩))
                go_ret; exact ⟨ret_i' E.out, Mr.mk' (by repeat (first | (with_reducible exact Mr.refl _) | (with_reducible apply Mr.drew) | (with_reducible apply Mr.alloc) | (with_reducible apply Mr.ext) | (with_reducible refine Mr.setCell ?_ (by first | (simp; done) | (simp; omega) | omega | (refine leOf0 ?_; (repeat (first | (with_reducible exact Mr.refl _) | (with_reducible apply Mr.drew) | (with_reducible apply Mr.alloc) | (with_reducible apply Mr.ext) | (with_reducible refine Mr.setCell ?_ (by first | (simp; done) | (simp; omega) | omega) _))); done) | (refine leOf ?_; (repeat (first | (with_reducible exact Mr.refl _) | (with_reducible apply Mr.drew) | (with_reducible apply Mr.alloc) | (with_reducible apply Mr.ext) | (with_reducible refine Mr.setCell ?_ (by first | (simp; done) | (simp; omega) | omega) _))); done)) _)))⟩
end Tg
end Go.Proofs.YtdedfnogaonphaaDoor
