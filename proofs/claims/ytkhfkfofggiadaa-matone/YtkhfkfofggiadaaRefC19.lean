/- The document's own answers of layer 8, fifth part: lists that are moved, what is even, turned ones, and the one. -/
import Derived.Test.YtkhfkfofggiadaaRefC17
namespace Go.Proofs.Ytkhfkfofggiadaa
open Go.ChangeShapes Go.WideShapes Go.ChangeAt Go.RowKit
open Go.Proofs.Ytkhfkfofggiadaa.Fx Go.Proofs.Ytkhfkfofggiadaa.Sl Go.Proofs.Ytkhfkfofggiadaa.Sm Go.Proofs.Ytkhfkfofggiadaa.Vc
set_option linter.unusedVariables false
attribute [local go_sem] Ext.cell Ext.froz Ext.lt Ext.lt1 Ext.lt2 Ext.lt3 Ext.all Ext.set_u drew_heap setCell_size Ext.set_size
namespace Ma
theorem rdot_n9 {a b : Option Addr} {c d : Nat} {l m : List Int} {w : World} (n k : Nat) (h : Sl.Is w a c l) (g : Sl.Is w b d m) (hn : l.length = n) (hk : m.length = k) :
    Calls Try.prog 35 #[.slice a n c, .slice b k d] w fun e w' => e = .returned (.tuple #[.int .i64 (dv l m), .bool (db l m)]) ∧ ∃ x : Ext w, w' = x.u := by
  subst hn; subst hk; exact rdot_c a b c d l m w h g
def appR (L : List (List Int)) (v : List Int) : List Int := mk (fun i => dv (rw' L i) v) L.length
set_option maxRecDepth 100000 in
set_option maxHeartbeats 2000000 in
theorem rapply8_c {a b : Option Addr} {c d n : Nat} {L : List (List Int)} {v : List Int} (w : World) (h : Rs w a c L) (en : L.length = n) (g : Is w b d v) (em : v.length = n) (hs : Sl.sq L = true) :
    Calls Try.prog 15 #[.slice a n c, .slice b n d] w fun e w' => ∃ a' c', e = .returned (.tuple #[.slice a' n c', .bool (anyB (fun i => db (rw' L i) v) n)]) ∧ ∃ x : Ext w, w' = x.u ∧ Is x.u a' c' (appR L v) := by
  obtain ⟨i0, hi, hz0, hz1, hz2⟩ := info_parts infoI
  obtain ⟨h6, hr1⟩ := sq_ok hs en
  go_enter Try.func15, Try.ntmps15
  go_wp2_with (first | (go_at_call 19; refine (rsane8_c _ h en).mono ?_; rw [hs]; rintro e w' ⟨rfl, x, rfl⟩; have hm0 := x.h; replace h := h.ext x; replace g := g.ext x; generalize x.u = W0 at *; clear x))
  go_loopw [6, 7, 8] (fun r f i wr => ∃ k : Nat, k ≤ n ∧ i = .int .i64 k ∧ f = .bool (anyB (fun i => db (rw' L i) v) k) ∧ wr.ownsRow W0.heap.size 3 1 r k ((mk (fun i => dv (rw' L i) v) k).map (Value.int .i64)) ∧ ∃ y : Ext W0, wr = y.u) (fun _ _ i _ => (n - (intOf i).toNat))
  case atStart => exact ⟨0, by omega, rfl, rfl, World.ownsRow_nil _ _ _ _, Mr.mk' (Mr.refl _)⟩
  case round =>
    obtain ⟨k, hk, rfl, rfl, hown, y, rfl⟩ := hrel
    by_cases hlt : k < n
    · have hlt' : (k : Int) < n := by omega
      obtain ⟨b1, o1, ra1, rc1, rfl, hb1, hc1, hI1⟩ := h.row k (by omega)
      rw [hr1 k (by omega)] at hc1
      have e1 := hr1 k (by omega)
      have hV : Hid (mk (fun i => dv (rw' L i) v) (k + 1) = mk (fun i => dv (rw' L i) v) k ++ [dv (rw' L k) v]) := mk_succ _ _
      have hF : Hid (anyB (fun i => db (rw' L i) v) (k + 1) = (anyB (fun i => db (rw' L i) v) k || db (rw' L k) v)) := anyB_succ _ _
      obtain ⟨X, hX⟩ : ∃ X, dv (rw' L k) v = X := ⟨_, rfl⟩
      obtain ⟨Y, hY⟩ : ∃ Y, db (rw' L k) v = Y := ⟨_, rfl⟩
      rw [hX] at hV
      rw [hY] at hF
      generalize hFF : anyB (fun i => db (rw' L i) v) k = F at *
      clear hFF h hr1 hs
      have hmr : ∀ (W' : World), Mr y.u W' → ∀ (w1 : World), (W'.alloc (.cells #[.int .i64 X] 3)).grownBy w1 u6.ownBlock → ∃ z' : Ext W0, w1 = z'.u := fun W' m w1 hg => Mr.mk' (((y.h.trans m).alloc _).grownBy hg (fun j e => (hown.lt j e).1))
      cases F
      all_goals
        go_wp2_with (first | (go_at_call 35; refine (rdot_n9 n n (hI1.mr (by repeat (first | (with_reducible exact Mr.refl _) | (with_reducible apply Mr.drew) | (with_reducible apply Mr.alloc) | (with_reducible apply Mr.ext) | (with_reducible refine Mr.setCell ?_ (by first | (simp; done) | (simp; omega) | omega | (refine leOf0 ?_; (repeat (first | (with_reducible exact Mr.refl _) | (with_reducible apply Mr.drew) | (with_reducible apply Mr.alloc) | (with_reducible apply Mr.ext) | (with_reducible refine Mr.setCell ?_ (by first | (simp; done) | (simp; omega) | omega) _))); done) | (refine leOf ?_; (repeat (first | (with_reducible exact Mr.refl _) | (with_reducible apply Mr.drew) | (with_reducible apply Mr.alloc) | (with_reducible apply Mr.ext) | (with_reducible refine Mr.setCell ?_ (by first | (simp; done) | (simp; omega) | omega) _))); done)) _)))) (g.mr (by repeat (first | (with_reducible exact Mr.refl _) | (with_reducible apply Mr.drew) | (with_reducible apply Mr.alloc) | (with_reducible apply Mr.ext) | (with_reducible refine Mr.setCell ?_ (by first | (simp; done) | (simp; omega) | omega | (refine leOf0 ?_; (repeat (first | (with_reducible exact Mr.refl _) | (with_reducible apply Mr.drew) | (with_reducible apply Mr.alloc) | (with_reducible apply Mr.ext) | (with_reducible refine Mr.setCell ?_ (by first | (simp; done) | (simp; omega) | omega) _))); done) | (refine leOf ?_; (repeat (first | (with_reducible exact Mr.refl _) | (with_reducible apply Mr.drew) | (with_reducible apply Mr.alloc) | (with_reducible apply Mr.ext) | (with_reducible refine Mr.setCell ?_ (by first | (simp; done) | (simp; omega) | omega) _))); done)) _)))) e1 em).mono ?_; rw [hX, hY]; rintro e w' ⟨rfl, x6, rfl⟩) | (at_builtin; refine wpList_append_own _ rfl _ _ 23 rfl W0.heap.size 3 i0 (.int .i64 0) 1 8 Try.underlying23 hi hz0 hz1 hz2 rfl (by decide) _ _ _ rfl ((owns_mr hown (by repeat (first | (with_reducible exact Mr.refl _) | (with_reducible apply Mr.drew) | (with_reducible apply Mr.alloc) | (with_reducible apply Mr.ext) | (with_reducible refine Mr.setCell ?_ (by first | (simp; done) | (simp; omega) | omega | (refine leOf0 ?_; (repeat (first | (with_reducible exact Mr.refl _) | (with_reducible apply Mr.drew) | (with_reducible apply Mr.alloc) | (with_reducible apply Mr.ext) | (with_reducible refine Mr.setCell ?_ (by first | (simp; done) | (simp; omega) | omega) _))); done) | (refine leOf ?_; (repeat (first | (with_reducible exact Mr.refl _) | (with_reducible apply Mr.drew) | (with_reducible apply Mr.alloc) | (with_reducible apply Mr.ext) | (with_reducible refine Mr.setCell ?_ (by first | (simp; done) | (simp; omega) | omega) _))); done)) _)))).alloc _) ⟨_, 0, none⟩ 1 1 [.int .i64 X] rfl rfl (cell_one _ _) (one_cell _) (by unfold maxLen; omega) (by omega) (by have := y.h.below.size; have := x6.h.below.size; simp at *; omega) ?_; intro v' w1 hown' hgrow _; obtain ⟨z', rfl⟩ := hmr _ (by repeat (first | (with_reducible exact Mr.refl _) | (with_reducible apply Mr.drew) | (with_reducible apply Mr.alloc) | (with_reducible apply Mr.ext) | (with_reducible refine Mr.setCell ?_ (by first | (simp; done) | (simp; omega) | omega | (refine leOf0 ?_; (repeat (first | (with_reducible exact Mr.refl _) | (with_reducible apply Mr.drew) | (with_reducible apply Mr.alloc) | (with_reducible apply Mr.ext) | (with_reducible refine Mr.setCell ?_ (by first | (simp; done) | (simp; omega) | omega) _))); done) | (refine leOf ?_; (repeat (first | (with_reducible exact Mr.refl _) | (with_reducible apply Mr.drew) | (with_reducible apply Mr.alloc) | (with_reducible apply Mr.ext) | (with_reducible refine Mr.setCell ?_ (by first | (simp; done) | (simp; omega) | omega) _))); done)) _))) w1 hgrow; clear hgrow))
        go_roundw
        case rel => exact ⟨k + 1, by omega, by go_num, by rw [hF.out]; simp, by rw [hV.out, List.map_append]; exact hown', z', rfl⟩
        case measure => simp [intOf]; omega
    · obtain rfl : k = n := by omega
      obtain ⟨a', c', rfl, hn', hIs⟩ := of_owns hown (mk_bd (fun j _ => by have := cl_bd (Sc.rn (dz (rw' L j) v)); unfold dv; omega))
      rw [mk_length] at *
      have hIs' : Is y.u a' c' (appR L v) := by unfold appR; rw [en]; exact hIs
      obtain ⟨F, hFe⟩ : ∃ F, anyB (fun i => db (rw' L i) v) k = F := ⟨_, rfl⟩
      rw [hFe]
      replace hFe : Hid (anyB (fun i => db (rw' L i) v) k = F) := hFe
      clear h g hr1 hs hown hIs
      go_wp2
      go_ret2
      exact ⟨a', c', by rw [hFe.out]; rfl, by obtain ⟨x, hx⟩ := Mr.mk' (hm0.trans y.h); exact ⟨x, hx, hx ▸ hIs'⟩⟩
theorem rmean_n9 {a : Option Addr} {c : Nat} {l : List Int} {w : World} (n : Nat) (h : Sl.Is w a c l) (hn : l.length = n) :
    Calls Try.prog 44 #[.slice a n c] w fun e w' => e = .returned (.tuple #[.int .i64 (mn l), .bool (ck l 64)]) ∧ ∃ x : Ext w, w' = x.u := by
  subst hn; exact rmean_c a c l w h
def evR (L : List (List Int)) (i : Nat) : List Int := mk (fun j => mn [gt (rw' L i) j, gt (rw' L j) i]) L.length
theorem mn_in (X : List Int) : -288230376151711744 ≤ mn X ∧ mn X ≤ 288230376151711744 := by
  unfold mn
  split
  · omega
  · rename_i h
    have b := tot_bd X
    have := mean_in (z := tot X) (L := (vk X 64).length) (by omega) rfl rfl b.1 b.2
    rw [show tot X + tot X = 2 * tot X by omega] at this
    omega
set_option maxRecDepth 100000 in
set_option maxHeartbeats 2000000 in
theorem reven8_c {a : Option Addr} {c n : Nat} {L : List (List Int)} (w : World) (h : Rs w a c L) (en : L.length = n) (hs : Sl.sq L = true) :
    Calls Try.prog 25 #[.slice a n c] w fun e w' => ∃ a' c', e = .returned (.slice a' n c') ∧ ∃ x : Ext w, w' = x.u ∧ Rs x.u a' c' (mkR (evR L) n) := by
  obtain ⟨i0, hi, hz0, hz1, hz2⟩ := info_parts infoI
  obtain ⟨i1, hj, hy0, hy1, hy2⟩ := info_parts infoS
  obtain ⟨h6, hr1⟩ := sq_ok hs en
  go_enter Try.func25, Try.ntmps25
  go_wp2_with (first | (go_at_call 40; refine (ras8_c _ h en).mono ?_; rw [hs, if_pos rfl]; rintro e w' ⟨rfl, x, rfl⟩; have hm0 := x.h; replace h := h.ext x; generalize x.u = W0 at *; clear x))
  go_loopw [4, 5] (fun v i wr => ∃ k : Nat, k ≤ n ∧ i = .int .i64 k ∧ Ow W0 wr v k (evR L) ∧ ∃ y : Ext W0, wr = y.u) (fun _ i _ => (n - (intOf i).toNat))
  case atStart => exact ⟨0, by omega, rfl, Ow.nil _ _, Mr.mk' (Mr.refl _)⟩
  case round =>
    obtain ⟨k, hk, rfl, hOw, y, rfl⟩ := hrel
    by_cases hlt : k < n
    · have hlt' : (k : Int) < n := by omega
      go_wp2
      go_loopw [6, 7] (fun r j wr => ∃ q : Nat, q ≤ n ∧ j = .int .i64 q ∧ wr.ownsRow y.u.heap.size 3 1 r q ((mk (fun j => mn [gt (rw' L k) j, gt (rw' L j) k]) q).map (Value.int .i64)) ∧ ∃ z : Ext y.u, wr = z.u) (fun _ j _ => (n - (intOf j).toNat))
      case atStart => exact ⟨0, by omega, rfl, World.ownsRow_nil _ _ _ _, Mr.mk' (Mr.refl _)⟩
      case round =>
        obtain ⟨q, hq, rfl, hown, z, rfl⟩ := hrel
        by_cases hqt : q < n
        · have hqt' : (q : Int) < n := by omega
          obtain ⟨b1, o1, ra1, rc1, rfl, hb1, hc1, hI1⟩ := h.row k (by omega)
          obtain ⟨b2, o2, ra2, rc2, e2, hb2, hc2, hI2⟩ := h.row q (by omega)
          simp only [Option.some.injEq, Addr.mk.injEq] at e2
          obtain ⟨rfl, rfl, -⟩ := e2
          rw [hr1 k (by omega)] at hc1
          rw [hr1 q (by omega)] at hc2
          obtain ⟨b3, o3, rfl, hb3, hc3⟩ := hI1.num q (by rw [hr1 k (by omega)]; exact hqt)
          obtain ⟨b4, o4, rfl, hb4, hc4⟩ := hI2.num k (by rw [hr1 q (by omega)]; exact hlt)
          have hP : B64 (gt (rw' L k) q) := hI1.bd q
          have hQ : B64 (gt (rw' L q) k) := hI2.bd k
          have hV : Hid (mk (fun j => mn [gt (rw' L k) j, gt (rw' L j) k]) (q + 1) = mk (fun j => mn [gt (rw' L k) j, gt (rw' L j) k]) q ++ [mn [gt (rw' L k) q, gt (rw' L q) k]]) := mk_succ _ _
          obtain ⟨X, hX⟩ : ∃ X, mn [gt (rw' L k) q, gt (rw' L q) k] = X := ⟨_, rfl⟩
          rw [hX] at hV
          clear hI1 hI2 h hr1 hOw hs
          generalize gt (rw' L k) q = P at *
          generalize gt (rw' L q) k = Q at *
          have hmr : ∀ (W' : World), Mr z.u W' → ∀ (w1 : World), (W'.alloc (.cells #[.int .i64 X] 3)).grownBy w1 u6.ownBlock → ∃ z' : Ext y.u, w1 = z'.u := fun W' m w1 hg => Mr.mk' (((z.h.trans m).alloc _).grownBy hg (fun j e => (hown.lt j e).1))
          go_wp2
          go_region_with (first | (go_at_call 44; refine (rmean_n9 2 ((is2 (w := z.u) _ rfl hP hQ).mr (by repeat (first | (with_reducible exact Mr.refl _) | (with_reducible apply Mr.drew) | (with_reducible apply Mr.alloc) | (with_reducible apply Mr.ext) | (with_reducible refine Mr.setCell ?_ (by first | (simp; done) | (simp; omega) | omega | (refine leOf0 ?_; (repeat (first | (with_reducible exact Mr.refl _) | (with_reducible apply Mr.drew) | (with_reducible apply Mr.alloc) | (with_reducible apply Mr.ext) | (with_reducible refine Mr.setCell ?_ (by first | (simp; done) | (simp; omega) | omega) _))); done) | (refine leOf ?_; (repeat (first | (with_reducible exact Mr.refl _) | (with_reducible apply Mr.drew) | (with_reducible apply Mr.alloc) | (with_reducible apply Mr.ext) | (with_reducible refine Mr.setCell ?_ (by first | (simp; done) | (simp; omega) | omega) _))); done)) _)))) rfl).mono ?_; rw [hX]; rintro e w' ⟨rfl, x6, rfl⟩))
          all_goals
            go_wp2_with (first | (at_builtin; refine wpList_append_own _ rfl _ _ 23 rfl y.u.heap.size 3 i0 (.int .i64 0) 1 8 Try.underlying23 hi hz0 hz1 hz2 rfl (by decide) _ _ _ rfl ((owns_mr hown (by repeat (first | (with_reducible exact Mr.refl _) | (with_reducible apply Mr.drew) | (with_reducible apply Mr.alloc) | (with_reducible apply Mr.ext) | (with_reducible refine Mr.setCell ?_ (by first | (simp; done) | (simp; omega) | omega | (refine leOf0 ?_; (repeat (first | (with_reducible exact Mr.refl _) | (with_reducible apply Mr.drew) | (with_reducible apply Mr.alloc) | (with_reducible apply Mr.ext) | (with_reducible refine Mr.setCell ?_ (by first | (simp; done) | (simp; omega) | omega) _))); done) | (refine leOf ?_; (repeat (first | (with_reducible exact Mr.refl _) | (with_reducible apply Mr.drew) | (with_reducible apply Mr.alloc) | (with_reducible apply Mr.ext) | (with_reducible refine Mr.setCell ?_ (by first | (simp; done) | (simp; omega) | omega) _))); done)) _)))).alloc _) ⟨_, 0, none⟩ 1 1 [.int .i64 X] rfl rfl (cell_one _ _) (one_cell _) (by unfold maxLen; omega) (by omega) (by have := z.h.below.size; have := x6.h.below.size; simp at *; omega) ?_; intro v' w1 hown' hgrow _; obtain ⟨z', rfl⟩ := hmr _ (by repeat (first | (with_reducible exact Mr.refl _) | (with_reducible apply Mr.drew) | (with_reducible apply Mr.alloc) | (with_reducible apply Mr.ext) | (with_reducible refine Mr.setCell ?_ (by first | (simp; done) | (simp; omega) | omega | (refine leOf0 ?_; (repeat (first | (with_reducible exact Mr.refl _) | (with_reducible apply Mr.drew) | (with_reducible apply Mr.alloc) | (with_reducible apply Mr.ext) | (with_reducible refine Mr.setCell ?_ (by first | (simp; done) | (simp; omega) | omega) _))); done) | (refine leOf ?_; (repeat (first | (with_reducible exact Mr.refl _) | (with_reducible apply Mr.drew) | (with_reducible apply Mr.alloc) | (with_reducible apply Mr.ext) | (with_reducible refine Mr.setCell ?_ (by first | (simp; done) | (simp; omega) | omega) _))); done)) _))) w1 hgrow; clear hgrow))
            go_roundw
            case rel => exact ⟨q + 1, by omega, by go_num, by rw [hV.out, List.map_append]; exact hown', z', rfl⟩
            case measure => simp [intOf]; omega
        · obtain rfl : q = n := by omega
          have hRow : Rw z.u u6 (evR L k) := by
            unfold evR; rw [en]
            exact rw_owns hown (mk_bd (fun j _ => by have := mn_in [gt (rw' L k) j, gt (rw' L j) k]; omega))
          obtain ⟨vals, hO1, hO2⟩ := hOw
          obtain ⟨ra, rc, eu, hI, ht⟩ := id hRow
          have hlen : (evR L k).length = q := by unfold evR; rw [mk_length, en]
          rw [hlen] at eu
          subst eu
          have hpush : ∀ (v' : Value) (w1 : World), w1.ownsRow W0.heap.size 23 1 v' (k + 1) (vals ++ [.slice ra q rc]) → (z.u.alloc (.cells #[.slice ra q rc] 23)).grownBy w1 u4.ownBlock → Ow W0 w1 v' (k + 1) (evR L) := fun v' w1 ho hg =>
            Ow.push ((owns_mr hO1 z.h).alloc _) (fun i hi => ((hO2 i hi).mr z.h).mr ((Mr.refl _).alloc _)) (hRow.mr ((Mr.refl _).alloc _)) ho hg
          have hmr : ∀ (w1 : World), (z.u.alloc (.cells #[.slice ra q rc] 23)).grownBy w1 u4.ownBlock → ∃ z' : Ext W0, w1 = z'.u := fun w1 hg => Mr.mk' (((y.h.trans z.h).alloc _).grownBy hg (fun j e => (hO1.lt j e).1))
          clear hRow hI ht hown hr1 h hs
          go_wp2_with (first | (at_builtin; refine wpList_append_own _ rfl _ _ 22 rfl W0.heap.size 23 i1 (.slice none 0 0) 1 24 Try.underlying22 hj hy0 hy1 hy2 rfl (by decide) _ _ _ rfl ((owns_mr hO1 z.h).alloc _) ⟨z.u.heap.size, 0, none⟩ 1 1 [.slice ra _ rc] rfl rfl (cell_oneS _ _) (one_cellS _ _ _) (by unfold maxLen; omega) (by omega) (by have := y.h.below.size; have := z.h.below.size; simp; omega) ?_; intro v' w1 hown' hgrow _; have hO' := hpush v' w1 hown' hgrow; obtain ⟨z', rfl⟩ := hmr w1 hgrow; clear hgrow hown'))
          go_roundw
          case rel => exact ⟨k + 1, by omega, by go_num, hO', z', rfl⟩
          case measure => simp [intOf]; omega
    · obtain rfl : k = n := by omega
      obtain ⟨a', c', rfl, hR⟩ := hOw.done
      clear h hr1 hs
      go_wp2
      go_ret
      exact ⟨a', c', rfl, by obtain ⟨x, hx⟩ := Mr.mk' (hm0.trans y.h); exact ⟨x, hx, hx ▸ hR⟩⟩
end Ma
end Go.Proofs.Ytkhfkfofggiadaa
