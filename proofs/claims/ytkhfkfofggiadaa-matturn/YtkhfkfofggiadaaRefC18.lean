/- The document's own answers of layer 8, fourth part: products. -/
import Derived.Test.YtkhfkfofggiadaaRefC17
namespace Go.Proofs.Ytkhfkfofggiadaa
open Go.ChangeShapes Go.WideShapes Go.ChangeAt Go.RowKit
open Go.Proofs.Ytkhfkfofggiadaa.Fx Go.Proofs.Ytkhfkfofggiadaa.Sl Go.Proofs.Ytkhfkfofggiadaa.Sm Go.Proofs.Ytkhfkfofggiadaa.Vc
set_option linter.unusedVariables false
attribute [local go_sem] Ext.cell Ext.froz Ext.lt Ext.lt1 Ext.lt2 Ext.lt3 Ext.all Ext.set_u drew_heap setCell_size Ext.set_size
namespace Ma
theorem rdot_n8 {a b : Option Addr} {c d : Nat} {l m : List Int} {w : World} (n k : Nat) (h : Sl.Is w a c l) (g : Sl.Is w b d m) (hn : l.length = n) (hk : m.length = k) :
    Calls Try.prog 35 #[.slice a n c, .slice b k d] w fun e w' => e = .returned (.tuple #[.int .i64 (dv l m), .bool (db l m)]) ∧ ∃ x : Ext w, w' = x.u := by
  subst hn; subst hk; exact rdot_c a b c d l m w h g
def mulR (L M : List (List Int)) (i : Nat) : List Int := mk (fun j => dv (rw' L i) (col M j)) L.length
def mulB (L M : List (List Int)) (i : Nat) : Bool := anyB (fun j => db (rw' L i) (col M j)) L.length
set_option maxRecDepth 100000 in
set_option maxHeartbeats 2000000 in
theorem rmul8_c {a b : Option Addr} {c d n m : Nat} {L M : List (List Int)} (w : World) (h : Rs w a c L) (en : L.length = n) (g : Rs w b d M) (em : M.length = m) (hs : (sq L && sq M && decide ((n : Int) = m)) = true) :
    Calls Try.prog 13 #[.slice a n c, .slice b m d] w fun e w' => ∃ a' c', e = .returned (.tuple #[.slice a' n c', .bool (anyB (mulB L M) n)]) ∧ ∃ x : Ext w, w' = x.u ∧ Rs x.u a' c' (mkR (mulR L M) n) := by
  obtain ⟨i0, hi, hz0, hz1, hz2⟩ := info_parts infoI
  obtain ⟨i1, hj, hy0, hy1, hy2⟩ := info_parts infoS
  obtain ⟨h6, hnm, hr1, hr2⟩ := both_ok hs en em
  subst hnm
  go_enter Try.func13, Try.ntmps13
  go_wp2_with (first | (go_at_call 30; refine (rboth_c _ h en g em).mono ?_; rw [hs]; rintro e w' ⟨rfl, x, rfl⟩; have hm0 := x.h; replace h := h.ext x; replace g := g.ext x; generalize x.u = W0 at *; clear x))
  go_loopw [6, 7, 8] (fun v f i wr => ∃ k : Nat, k ≤ n ∧ i = .int .i64 k ∧ f = .bool (anyB (mulB L M) k) ∧ Ow W0 wr v k (mulR L M) ∧ ∃ y : Ext W0, wr = y.u) (fun _ _ i _ => (n - (intOf i).toNat))
  case atStart => exact ⟨0, by omega, rfl, rfl, Ow.nil _ _, Mr.mk' (Mr.refl _)⟩
  case round =>
    obtain ⟨k, hk, rfl, rfl, hOw, y, rfl⟩ := hrel
    by_cases hlt : k < n
    · have hlt' : (k : Int) < n := by omega
      go_wp2
      go_loopw [7, 9, 10] (fun f r j wr => ∃ q : Nat, q ≤ n ∧ j = .int .i64 q ∧ f = .bool (anyB (mulB L M) k || anyB (fun j => db (rw' L k) (col M j)) q) ∧ wr.ownsRow y.u.heap.size 3 1 r q ((mk (fun j => dv (rw' L k) (col M j)) q).map (Value.int .i64)) ∧ ∃ z : Ext y.u, wr = z.u) (fun _ _ j _ => (n - (intOf j).toNat))
      case atStart => exact ⟨0, by omega, rfl, by simp [anyB], World.ownsRow_nil _ _ _ _, Mr.mk' (Mr.refl _)⟩
      case round =>
        obtain ⟨q, hq, rfl, rfl, hown, z, rfl⟩ := hrel
        by_cases hqt : q < n
        · have hqt' : (q : Int) < n := by omega
          obtain ⟨b1, o1, ra1, rc1, rfl, hb1, hc1, hI1⟩ := h.row k (by omega)
          rw [hr1 k (by omega)] at hc1
          have e1 := hr1 k (by omega)
          have hr2' : ∀ k, k < n → q < (rw' M k).length := fun k hk => by rw [hr2 k hk]; exact hqt
          have hV : Hid (mk (fun j => dv (rw' L k) (col M j)) (q + 1) = mk (fun j => dv (rw' L k) (col M j)) q ++ [dv (rw' L k) (col M q)]) := mk_succ _ _
          have hF : Hid ((anyB (mulB L M) k || anyB (fun j => db (rw' L k) (col M j)) (q + 1)) = ((anyB (mulB L M) k || anyB (fun j => db (rw' L k) (col M j)) q) || db (rw' L k) (col M q))) := by rw [Hid, anyB_succ, Bool.or_assoc]
          clear h hr1 hr2 hOw hs
          obtain ⟨X, hX⟩ : ∃ X, dv (rw' L k) (col M q) = X := ⟨_, rfl⟩
          obtain ⟨Y, hY⟩ : ∃ Y, db (rw' L k) (col M q) = Y := ⟨_, rfl⟩
          rw [hX] at hV
          rw [hY] at hF
          generalize hFF : (anyB (mulB L M) k || anyB (fun j => db (rw' L k) (col M j)) q) = F at *
          clear hFF
          have e5 : (col M q).length = n := by unfold col; rw [List.length_map]; exact em
          have hmr : ∀ (W' : World), Mr z.u W' → ∀ (w1 : World), (W'.alloc (.cells #[.int .i64 X] 3)).grownBy w1 u9.ownBlock → ∃ z' : Ext y.u, w1 = z'.u := fun W' m w1 hg => Mr.mk' (((z.h.trans m).alloc _).grownBy hg (fun j e => (hown.lt j e).1))
          cases F
          all_goals
            go_wp2
            go_region_with (first | (go_at_call 36; refine (rcol_c q _ (g.mr (by repeat (first | (with_reducible exact Mr.refl _) | (with_reducible apply Mr.drew) | (with_reducible apply Mr.alloc) | (with_reducible apply Mr.ext) | (with_reducible refine Mr.setCell ?_ (by first | (simp; done) | (simp; omega) | omega | (refine leOf0 ?_; (repeat (first | (with_reducible exact Mr.refl _) | (with_reducible apply Mr.drew) | (with_reducible apply Mr.alloc) | (with_reducible apply Mr.ext) | (with_reducible refine Mr.setCell ?_ (by first | (simp; done) | (simp; omega) | omega) _))); done) | (refine leOf ?_; (repeat (first | (with_reducible exact Mr.refl _) | (with_reducible apply Mr.drew) | (with_reducible apply Mr.alloc) | (with_reducible apply Mr.ext) | (with_reducible refine Mr.setCell ?_ (by first | (simp; done) | (simp; omega) | omega) _))); done)) _)))) em (by omega) hr2').mono ?_; rintro e w1 ⟨a5, c5, rfl, x5, rfl, hI5⟩) | (go_at_call 35; refine (rdot_n8 n n (hI1.mr (by repeat (first | (with_reducible exact Mr.refl _) | (with_reducible apply Mr.drew) | (with_reducible apply Mr.alloc) | (with_reducible apply Mr.ext) | (with_reducible refine Mr.setCell ?_ (by first | (simp; done) | (simp; omega) | omega | (refine leOf0 ?_; (repeat (first | (with_reducible exact Mr.refl _) | (with_reducible apply Mr.drew) | (with_reducible apply Mr.alloc) | (with_reducible apply Mr.ext) | (with_reducible refine Mr.setCell ?_ (by first | (simp; done) | (simp; omega) | omega) _))); done) | (refine leOf ?_; (repeat (first | (with_reducible exact Mr.refl _) | (with_reducible apply Mr.drew) | (with_reducible apply Mr.alloc) | (with_reducible apply Mr.ext) | (with_reducible refine Mr.setCell ?_ (by first | (simp; done) | (simp; omega) | omega) _))); done)) _)))) (by first | exact hI5 | exact hI5.mr (by repeat (first | (with_reducible exact Mr.refl _) | (with_reducible apply Mr.drew) | (with_reducible apply Mr.alloc) | (with_reducible apply Mr.ext) | (with_reducible refine Mr.setCell ?_ (by first | (simp; done) | (simp; omega) | omega | (refine leOf0 ?_; (repeat (first | (with_reducible exact Mr.refl _) | (with_reducible apply Mr.drew) | (with_reducible apply Mr.alloc) | (with_reducible apply Mr.ext) | (with_reducible refine Mr.setCell ?_ (by first | (simp; done) | (simp; omega) | omega) _))); done) | (refine leOf ?_; (repeat (first | (with_reducible exact Mr.refl _) | (with_reducible apply Mr.drew) | (with_reducible apply Mr.alloc) | (with_reducible apply Mr.ext) | (with_reducible refine Mr.setCell ?_ (by first | (simp; done) | (simp; omega) | omega) _))); done)) _)))) e1 e5).mono ?_; rw [hX, hY]; rintro e w' ⟨rfl, x6, rfl⟩))
            all_goals
              go_wp2_with (first | (at_builtin; refine wpList_append_own _ rfl _ _ 23 rfl y.u.heap.size 3 i0 (.int .i64 0) 1 8 Try.underlying23 hi hz0 hz1 hz2 rfl (by decide) _ _ _ rfl ((owns_mr hown (by repeat (first | (with_reducible exact Mr.refl _) | (with_reducible apply Mr.drew) | (with_reducible apply Mr.alloc) | (with_reducible apply Mr.ext) | (with_reducible refine Mr.setCell ?_ (by first | (simp; done) | (simp; omega) | omega | (refine leOf0 ?_; (repeat (first | (with_reducible exact Mr.refl _) | (with_reducible apply Mr.drew) | (with_reducible apply Mr.alloc) | (with_reducible apply Mr.ext) | (with_reducible refine Mr.setCell ?_ (by first | (simp; done) | (simp; omega) | omega) _))); done) | (refine leOf ?_; (repeat (first | (with_reducible exact Mr.refl _) | (with_reducible apply Mr.drew) | (with_reducible apply Mr.alloc) | (with_reducible apply Mr.ext) | (with_reducible refine Mr.setCell ?_ (by first | (simp; done) | (simp; omega) | omega) _))); done)) _)))).alloc _) ⟨_, 0, none⟩ 1 1 [.int .i64 X] rfl rfl (cell_one _ _) (one_cell _) (by unfold maxLen; omega) (by omega) (by have := z.h.below.size; have := x5.h.below.size; have := x6.h.below.size; simp at *; omega) ?_; intro v' w1 hown' hgrow _; obtain ⟨z', rfl⟩ := hmr _ (by repeat (first | (with_reducible exact Mr.refl _) | (with_reducible apply Mr.drew) | (with_reducible apply Mr.alloc) | (with_reducible apply Mr.ext) | (with_reducible refine Mr.setCell ?_ (by first | (simp; done) | (simp; omega) | omega | (refine leOf0 ?_; (repeat (first | (with_reducible exact Mr.refl _) | (with_reducible apply Mr.drew) | (with_reducible apply Mr.alloc) | (with_reducible apply Mr.ext) | (with_reducible refine Mr.setCell ?_ (by first | (simp; done) | (simp; omega) | omega) _))); done) | (refine leOf ?_; (repeat (first | (with_reducible exact Mr.refl _) | (with_reducible apply Mr.drew) | (with_reducible apply Mr.alloc) | (with_reducible apply Mr.ext) | (with_reducible refine Mr.setCell ?_ (by first | (simp; done) | (simp; omega) | omega) _))); done)) _))) w1 hgrow; clear hgrow))
              go_roundw
              case rel => exact ⟨q + 1, by omega, by go_num, by rw [hF.out]; simp, by rw [hV.out, List.map_append]; exact hown', z', rfl⟩
              case measure => simp [intOf]; omega
        · obtain rfl : q = n := by omega
          have hRow : Rw z.u u9 (mulR L M k) := by
            unfold mulR; rw [en]
            exact rw_owns hown (mk_bd (fun j _ => by have := cl_bd (Sc.rn (dz (rw' L k) (col M j))); unfold dv; omega))
          obtain ⟨vals, hO1, hO2⟩ := hOw
          obtain ⟨ra, rc, eu, hI, ht⟩ := id hRow
          have hlen : (mulR L M k).length = q := by unfold mulR; rw [mk_length, en]
          rw [hlen] at eu
          subst eu
          have hF : Hid ((anyB (mulB L M) k || anyB (fun j => db (rw' L k) (col M j)) q) = anyB (mulB L M) (k + 1)) := by rw [Hid, anyB_succ, mulB, en]
          have hpush : ∀ (v' : Value) (w1 : World), w1.ownsRow W0.heap.size 23 1 v' (k + 1) (vals ++ [.slice ra q rc]) → (z.u.alloc (.cells #[.slice ra q rc] 23)).grownBy w1 u6.ownBlock → Ow W0 w1 v' (k + 1) (mulR L M) := fun v' w1 ho hg =>
            Ow.push ((owns_mr hO1 z.h).alloc _) (fun i hi => ((hO2 i hi).mr z.h).mr ((Mr.refl _).alloc _)) (hRow.mr ((Mr.refl _).alloc _)) ho hg
          have hmr : ∀ (w1 : World), (z.u.alloc (.cells #[.slice ra q rc] 23)).grownBy w1 u6.ownBlock → ∃ z' : Ext W0, w1 = z'.u := fun w1 hg => Mr.mk' (((y.h.trans z.h).alloc _).grownBy hg (fun j e => (hO1.lt j e).1))
          clear hRow hI ht hown hr1 hr2 h g hs
          generalize (anyB (mulB L M) k || anyB (fun j => db (rw' L k) (col M j)) q) = F at *
          go_wp2_with (first | (at_builtin; refine wpList_append_own _ rfl _ _ 22 rfl W0.heap.size 23 i1 (.slice none 0 0) 1 24 Try.underlying22 hj hy0 hy1 hy2 rfl (by decide) _ _ _ rfl ((owns_mr hO1 z.h).alloc _) ⟨z.u.heap.size, 0, none⟩ 1 1 [.slice ra _ rc] rfl rfl (cell_oneS _ _) (one_cellS _ _ _) (by unfold maxLen; omega) (by omega) (by have := y.h.below.size; have := z.h.below.size; simp; omega) ?_; intro v' w1 hown' hgrow _; have hO' := hpush v' w1 hown' hgrow; obtain ⟨z', rfl⟩ := hmr w1 hgrow; clear hgrow hown'))
          go_roundw
          case rel => exact ⟨k + 1, by omega, by go_num, by rw [hF.out], hO', z', rfl⟩
          case measure => simp [intOf]; omega
    · obtain rfl : k = n := by omega
      obtain ⟨a', c', rfl, hR⟩ := hOw.done
      clear h g hr1 hr2 hs
      obtain ⟨F, hFe⟩ : ∃ F, anyB (mulB L M) k = F := ⟨_, rfl⟩
      rw [hFe]
      replace hFe : Hid (anyB (mulB L M) k = F) := hFe
      go_wp2
      go_ret2
      exact ⟨a', c', by rw [hFe.out]; rfl, by obtain ⟨x, hx⟩ := Mr.mk' (hm0.trans y.h); exact ⟨x, hx, hx ▸ hR⟩⟩
end Ma
end Go.Proofs.Ytkhfkfofggiadaa
