/- The document's own answers of layer 8, third part: what makes matrices. -/
import Derived.Test.YtkhfkfofggiadaaRefC16
import Derived.Test.YtkhfkfofggiadaaRefC11
import Derived.Test.YtkhfkfofggiadaaVecM
namespace Go.Proofs.Ytkhfkfofggiadaa
open Go.ChangeShapes Go.WideShapes Go.ChangeAt Go.RowKit
open Go.Proofs.Ytkhfkfofggiadaa.Fx Go.Proofs.Ytkhfkfofggiadaa.Sl Go.Proofs.Ytkhfkfofggiadaa.Sm Go.Proofs.Ytkhfkfofggiadaa.Vc
set_option linter.unusedVariables false
attribute [local go_sem] Ext.cell Ext.froz Ext.lt Ext.lt1 Ext.lt2 Ext.lt3 Ext.all Ext.set_u drew_heap setCell_size Ext.set_size
namespace Ma
/-- Whether something is so at one of the places. -/
def anyB (p : Nat → Bool) (n : Nat) : Bool := (List.range n).any p
theorem anyB_succ (p : Nat → Bool) (n : Nat) : anyB p (n + 1) = (anyB p n || p n) := by simp [anyB, List.range_succ]
theorem sq_ok {L : List (List Int)} {n : Nat} (h : sq L = true) (en : L.length = n) : (1 ≤ n ∧ n ≤ 6) ∧ ∀ k, k < n → (rw' L k).length = n := by
  unfold Sl.sq at h
  rw [Bool.and_eq_true, Bool.and_eq_true, decide_eq_true_eq, decide_eq_true_eq, all_rw, en] at h
  exact ⟨⟨h.1.2, h.2⟩, fun k hk => by simpa using h.1.1 k hk⟩
theorem both_ok {L M : List (List Int)} {n m : Nat} (hs : (sq L && sq M && decide ((n : Int) = m)) = true) (en : L.length = n) (em : M.length = m) : (1 ≤ n ∧ n ≤ 6) ∧ n = m ∧ (∀ k, k < n → (rw' L k).length = n) ∧ (∀ k, k < n → (rw' M k).length = n) := by
  rw [Bool.and_eq_true, Bool.and_eq_true, decide_eq_true_eq] at hs
  have h1 := sq_ok hs.1.1 en
  have h2 := sq_ok hs.1.2 em
  obtain rfl : n = m := by omega
  exact ⟨h1.1, rfl, h1.2, h2.2⟩
/-- The sum's numbers. -/
def sumR (L M : List (List Int)) (i : Nat) : List Int := mk (fun j => av (gt (rw' L i) j) (gt (rw' M i) j)) L.length
def sumB (L M : List (List Int)) (i : Nat) : Bool := anyB (fun j => ao (gt (rw' L i) j) (gt (rw' M i) j)) L.length
set_option maxRecDepth 100000 in
set_option maxHeartbeats 2000000 in
theorem radd8_c {a b : Option Addr} {c d n m : Nat} {L M : List (List Int)} (w : World) (h : Rs w a c L) (en : L.length = n) (g : Rs w b d M) (em : M.length = m) (hs : (sq L && sq M && decide ((n : Int) = m)) = true) :
    Calls Try.prog 11 #[.slice a n c, .slice b m d] w fun e w' => ∃ a' c', e = .returned (.tuple #[.slice a' n c', .bool (anyB (sumB L M) n)]) ∧ ∃ x : Ext w, w' = x.u ∧ Rs x.u a' c' (mkR (sumR L M) n) := by
  obtain ⟨i0, hi, hz0, hz1, hz2⟩ := info_parts infoI
  obtain ⟨i1, hj, hy0, hy1, hy2⟩ := info_parts infoS
  obtain ⟨h6, hnm, hr1, hr2⟩ := both_ok hs en em
  subst hnm
  go_enter Try.func11, Try.ntmps11
  go_wp2_with (first | (go_at_call 30; refine (rboth_c _ h en g em).mono ?_; rw [hs]; rintro e w' ⟨rfl, x, rfl⟩; have hm0 := x.h; replace h := h.ext x; replace g := g.ext x; generalize x.u = W0 at *; clear x))
  go_loopw [6, 7, 8] (fun v f i wr => ∃ k : Nat, k ≤ n ∧ i = .int .i64 k ∧ f = .bool (anyB (sumB L M) k) ∧ Ow W0 wr v k (sumR L M) ∧ ∃ y : Ext W0, wr = y.u) (fun _ _ i _ => (n - (intOf i).toNat))
  case atStart => exact ⟨0, by omega, rfl, rfl, Ow.nil _ _, Mr.mk' (Mr.refl _)⟩
  case round =>
    obtain ⟨k, hk, rfl, rfl, hOw, y, rfl⟩ := hrel
    by_cases hlt : k < n
    · have hlt' : (k : Int) < n := by omega
      go_wp2
      go_loopw [7, 9, 10] (fun f r j wr => ∃ q : Nat, q ≤ n ∧ j = .int .i64 q ∧ f = .bool (anyB (sumB L M) k || anyB (fun j => ao (gt (rw' L k) j) (gt (rw' M k) j)) q) ∧ wr.ownsRow y.u.heap.size 3 1 r q ((mk (fun j => av (gt (rw' L k) j) (gt (rw' M k) j)) q).map (Value.int .i64)) ∧ ∃ z : Ext y.u, wr = z.u) (fun _ _ j _ => (n - (intOf j).toNat))
      case atStart => exact ⟨0, by omega, rfl, by simp [anyB], World.ownsRow_nil _ _ _ _, Mr.mk' (Mr.refl _)⟩
      case round =>
        obtain ⟨q, hq, rfl, rfl, hown, z, rfl⟩ := hrel
        by_cases hqt : q < n
        · have hqt' : (q : Int) < n := by omega
          obtain ⟨b1, o1, ra1, rc1, rfl, hb1, hc1, hI1⟩ := h.row k (by omega)
          obtain ⟨b2, o2, ra2, rc2, rfl, hb2, hc2, hI2⟩ := g.row k (by omega)
          rw [hr1 k (by omega)] at hc1
          rw [hr2 k (by omega)] at hc2
          obtain ⟨b3, o3, rfl, hb3, hc3⟩ := hI1.num q (by rw [hr1 k (by omega)]; exact hqt)
          obtain ⟨b4, o4, rfl, hb4, hc4⟩ := hI2.num q (by rw [hr2 k (by omega)]; exact hqt)
          have hV : Hid (mk (fun j => av (gt (rw' L k) j) (gt (rw' M k) j)) (q + 1) = mk (fun j => av (gt (rw' L k) j) (gt (rw' M k) j)) q ++ [av (gt (rw' L k) q) (gt (rw' M k) q)]) := mk_succ _ _
          have hF : Hid ((anyB (sumB L M) k || anyB (fun j => ao (gt (rw' L k) j) (gt (rw' M k) j)) (q + 1)) = ((anyB (sumB L M) k || anyB (fun j => ao (gt (rw' L k) j) (gt (rw' M k) j)) q) || ao (gt (rw' L k) q) (gt (rw' M k) q))) := by rw [Hid, anyB_succ, Bool.or_assoc]
          clear hI1 hI2 h g hr1 hr2 hOw hs
          generalize gt (rw' L k) q = P at *
          generalize gt (rw' M k) q = Q at *
          generalize hX : av P Q = X at *
          generalize hFF : (anyB (sumB L M) k || anyB (fun j => ao (gt (rw' L k) j) (gt (rw' M k) j)) q) = F at *
          have hmr : ∀ (x9 : Ext z.u) (w1 : World), (x9.u.alloc (.cells #[.int .i64 X] 3)).grownBy w1 u9.ownBlock → ∃ z' : Ext y.u, w1 = z'.u := fun x9 w1 hg => Mr.mk' (((z.h.trans x9.h).alloc _).grownBy hg (fun j e => (hown.lt j e).1))
          clear hFF
          cases F
          all_goals
            go_wp2
            refine wp_region_ext (by kernel_rfl) (by kernel_rfl) ?_
            repeat (go_big_quiet_step ((go_at_call 31; exact extCall0 (radd_c _ _ _))))
            refine wpQuiet_nil ?_
            rintro w1 ⟨x9, rfl⟩
            go_wp2_with (first | (at_builtin; refine wpList_append_own _ rfl _ _ 23 rfl y.u.heap.size 3 i0 (.int .i64 0) 1 8 Try.underlying23 hi hz0 hz1 hz2 rfl (by decide) _ _ _ rfl ((owns_mr hown x9.h).alloc _) ⟨x9.u.heap.size, 0, none⟩ 1 1 [.int .i64 X] rfl rfl (cell_one _ _) (one_cell _) (by unfold maxLen; omega) (by omega) (by have := z.h.below.size; have := x9.h.below.size; simp; omega) ?_; intro v' w1 hown' hgrow _; obtain ⟨z', rfl⟩ := hmr x9 w1 hgrow; clear hgrow))
            go_roundw
            case rel => exact ⟨q + 1, by omega, by go_num, by rw [hF.out]; simp, by rw [hV.out, List.map_append]; exact hown', z', rfl⟩
            case measure => simp [intOf]; omega
        · obtain rfl : q = n := by omega
          have hRow : Rw z.u u9 (sumR L M k) := by
            unfold sumR; rw [en]
            exact rw_owns hown (mk_bd (fun j _ => by have := av_bd (gt (rw' L k) j) (gt (rw' M k) j); omega))
          obtain ⟨vals, hO1, hO2⟩ := hOw
          obtain ⟨ra, rc, eu, hI, ht⟩ := id hRow
          have hlen : (sumR L M k).length = q := by unfold sumR; rw [mk_length, en]
          rw [hlen] at eu
          subst eu
          have hF : Hid ((anyB (sumB L M) k || anyB (fun j => ao (gt (rw' L k) j) (gt (rw' M k) j)) q) = anyB (sumB L M) (k + 1)) := by rw [Hid, anyB_succ, sumB, en]
          have hpush : ∀ (v' : Value) (w1 : World), w1.ownsRow W0.heap.size 23 1 v' (k + 1) (vals ++ [.slice ra q rc]) → (z.u.alloc (.cells #[.slice ra q rc] 23)).grownBy w1 u6.ownBlock → Ow W0 w1 v' (k + 1) (sumR L M) := fun v' w1 ho hg =>
            Ow.push ((owns_mr hO1 z.h).alloc _) (fun i hi => ((hO2 i hi).mr z.h).mr ((Mr.refl _).alloc _)) (hRow.mr ((Mr.refl _).alloc _)) ho hg
          have hmr : ∀ (w1 : World), (z.u.alloc (.cells #[.slice ra q rc] 23)).grownBy w1 u6.ownBlock → ∃ z' : Ext W0, w1 = z'.u := fun w1 hg => Mr.mk' (((y.h.trans z.h).alloc _).grownBy hg (fun j e => (hO1.lt j e).1))
          clear hRow hI ht hown hr1 hr2 h g hs
          generalize (anyB (sumB L M) k || anyB (fun j => ao (gt (rw' L k) j) (gt (rw' M k) j)) q) = F at *
          go_wp2_with (first | (at_builtin; refine wpList_append_own _ rfl _ _ 22 rfl W0.heap.size 23 i1 (.slice none 0 0) 1 24 Try.underlying22 hj hy0 hy1 hy2 rfl (by decide) _ _ _ rfl ((owns_mr hO1 z.h).alloc _) ⟨z.u.heap.size, 0, none⟩ 1 1 [.slice ra _ rc] rfl rfl (cell_oneS _ _) (one_cellS _ _ _) (by unfold maxLen; omega) (by omega) (by have := y.h.below.size; have := z.h.below.size; simp; omega) ?_; intro v' w1 hown' hgrow _; have hO' := hpush v' w1 hown' hgrow; obtain ⟨z', rfl⟩ := hmr w1 hgrow; clear hgrow hown'))
          go_roundw
          case rel => exact ⟨k + 1, by omega, by go_num, by rw [hF.out], hO', z', rfl⟩
          case measure => simp [intOf]; omega
    · obtain rfl : k = n := by omega
      obtain ⟨a', c', rfl, hR⟩ := hOw.done
      clear h g hr1 hr2 hs
      obtain ⟨F, hFe⟩ : ∃ F, anyB (sumB L M) k = F := ⟨_, rfl⟩
      rw [hFe]
      replace hFe : Hid (anyB (sumB L M) k = F) := hFe
      go_wp2
      go_ret2
      exact ⟨a', c', by rw [hFe.out]; rfl, by obtain ⟨x, hx⟩ := Mr.mk' (hm0.trans y.h); exact ⟨x, hx, hx ▸ hR⟩⟩
end Ma
end Go.Proofs.Ytkhfkfofggiadaa
