/- The document's own answers of layer 10, third part: what an even matrix is made of. -/
import Derived.Test.YtpammdogkkipbaaRefC26
namespace Go.Proofs.Ytpammdogkkipbaa
open Go.ChangeShapes Go.WideShapes Go.ChangeAt Go.RowKit
open Go.Proofs.Ytpammdogkkipbaa.Fx Go.Proofs.Ytpammdogkkipbaa.Wd Go.Proofs.Ytpammdogkkipbaa.Sc Go.Proofs.Ytpammdogkkipbaa.Sl Go.Proofs.Ytpammdogkkipbaa.Sm
set_option linter.unusedVariables false
attribute [local go_sem] Ext.cell Ext.froz Ext.lt Ext.lt1 Ext.lt2 Ext.lt3 Ext.all Ext.set_u drew_heap setCell_size Ext.set_size
namespace Sv
open Ma
theorem facO_no {L : List (List Int)} {n j : Nat} (en : L.length = n) (hj : j < n) (h : okC (nm L) n j = false) : facO L = false := by
  unfold facO; rw [en, okA_no hj h, Bool.and_false]
theorem okC_d {a : Nat → Nat → Int} {n j : Nat} (h : Df a j < 1) : okC a n j = false := by unfold okC; rw [decide_eq_false (by omega)]; simp
theorem okC_r {a : Nat → Nat → Int} {n j : Nat} (h : rf' a j j = true) : okC a n j = false := by unfold okC; rw [h]; rfl
theorem okC_b {a : Nat → Nat → Int} {n j : Nat} (h : bA a j (n - 1 - j) = true) : okC a n j = false := by unfold okC; rw [h]; simp
theorem okC_yes {a : Nat → Nat → Int} {n j : Nat} (h1 : rf' a j j = false) (h2 : 1 ≤ Df a j) (h3 : bA a j (n - 1 - j) = false) : okC a n j = true := by unfold okC; rw [h1, h3, decide_eq_true h2]; rfl
/-- Whether something was clamped below, in the first columns. -/
def fb (a : Nat → Nat → Int) (n j : Nat) : Bool := anyB (fun k => bA a k (n - 1 - k)) j
theorem fb_yes {a : Nat → Nat → Int} {n j : Nat} (h : fb a n j = true) : ∃ k, k < j ∧ okC a n k = false := by
  unfold fb at h
  rw [anyB_iff] at h
  obtain ⟨k, hk, h⟩ := h
  exact ⟨k, hk, okC_b h⟩
theorem fb_no {a : Nat → Nat → Int} {n j : Nat} (h : fb a n j = false) (k : Nat) (hk : k < j) : bA a k (n - 1 - k) = false := anyB_no h k hk
/-- What is there behind so many columns, as numbers. -/
def Lj (a : Nat → Nat → Int) (j : Nat) : Nat → Nat → Int := fun p q => if q < j then Lf a p q else 0
def Dj (a : Nat → Nat → Int) (j : Nat) : Nat → Int := fun q => if q < j then Df a q else 0
/-- .. and so many numbers of the next column. -/
def Lm (a : Nat → Nat → Int) (j m : Nat) : Nat → Nat → Int := fun p q => if q < j ∨ (q = j ∧ p < m) then Lf a p q else 0
theorem Lm_0 (a : Nat → Nat → Int) (j p q : Nat) : up (Lj a j) j j 4294967296 p q = Lm a j (j + 1) p q := by
  unfold up Lj Lm
  by_cases e : p = j ∧ q = j
  · obtain ⟨rfl, rfl⟩ := e
    rw [if_pos ⟨rfl, rfl⟩, if_pos (by omega), Lf_diag]
  · rw [if_neg e]
    by_cases l : q < j
    · rw [if_pos l, if_pos (.inl l)]
    · rw [if_neg l]
      by_cases g : q < j ∨ (q = j ∧ p < j + 1)
      · rw [if_pos g]
        obtain ⟨rfl, hp⟩ : q = j ∧ p < j + 1 := by omega
        rw [Lf_up a (show p < q by omega)]
      · rw [if_neg g]
theorem Lm_step (a : Nat → Nat → Int) (j m p q : Nat) : up (Lm a j m) m j (Lf a m j) p q = Lm a j (m + 1) p q := by
  unfold up Lm
  by_cases e : p = m ∧ q = j
  · obtain ⟨rfl, rfl⟩ := e
    rw [if_pos ⟨rfl, rfl⟩, if_pos (by omega)]
  · rw [if_neg e]
    by_cases l : q < j ∨ (q = j ∧ p < m)
    · rw [if_pos l, if_pos (by omega)]
    · rw [if_neg l, if_neg (by omega)]
theorem Lm_all {a : Nat → Nat → Int} {j n p : Nat} (hp : p < n) (q : Nat) : Lm a j n p q = Lj a (j + 1) p q := by
  unfold Lm Lj
  by_cases l : q < j ∨ (q = j ∧ p < n)
  · rw [if_pos l, if_pos (by omega)]
  · rw [if_neg l, if_neg (by omega)]
theorem Dj_step (a : Nat → Nat → Int) (j q : Nat) : (if q = j then Value.int .i64 (Df a j) else .int .i64 (Dj a j q)) = .int .i64 (Dj a (j + 1) q) := by
  unfold Dj
  by_cases e : q = j
  · subst e; rw [if_pos rfl, if_pos (by omega)]
  · rw [if_neg e]
    by_cases l : q < j
    · rw [if_pos l, if_pos (by omega)]
    · rw [if_neg l, if_neg (by omega)]
theorem rest_d (a : Nat → Nat → Int) (j : Nat) : lr (a j j) (Lj a j j) (Lj a j j) (Dj a j) j = Df a j ∧ lf (a j j) (Lj a j j) (Lj a j j) (Dj a j) j = rf' a j j := by
  rw [Df_eq]
  exact lr_congr rfl (fun k hk => by unfold Lj; rw [if_pos hk]) (fun k hk => by unfold Lj; rw [if_pos hk]) (fun k hk => by unfold Dj; rw [if_pos hk])
theorem rest_l (a : Nat → Nat → Int) (i j m : Nat) : lr (a i j) (Lm a j m i) (Lm a j m j) (Dj a (j + 1)) j = rv' a i j ∧ lf (a i j) (Lm a j m i) (Lm a j m j) (Dj a (j + 1)) j = rf' a i j :=
  lr_congr rfl (fun k hk => by unfold Lm; rw [if_pos (.inl hk)]) (fun k hk => by unfold Lm; rw [if_pos (.inl hk)]) (fun k hk => by unfold Dj; rw [if_pos (by omega)])
/-- What is told of an even matrix: it is made of something, or not. -/
def FacT (w : World) (L : List (List Int)) (n : Nat) (e : Ending) (w' : World) : Prop :=
  Mr w w' ∧ ((facO L = true ∧ ∃ g c R D, e = .returned (.tuple #[.slice (some ⟨g, 0, none⟩) n c, .slice (some ⟨D, 0, none⟩) n n, .bool true]) ∧ Oc w.heap.size w' g n c R (Lf (nm L)) ∧ w.heap.size ≤ D ∧ w'.rowIs D 3 n (fun k => .int .i64 (Df (nm L) k)) ∧ ∀ i, i < n → R i ≠ D) ∨
    (facO L = false ∧ e = .returned (.tuple #[.slice none 0 0, .slice none 0 0, .bool false])))
set_option maxRecDepth 100000 in
set_option maxHeartbeats 4000000 in
theorem rfactor_c {a : Option Addr} {c n : Nat} {L : List (List Int)} (w : World) (h : Rs w a c L) (en : L.length = n) :
    Calls Try.prog 11 #[.slice a n c] w fun e w' => FacT w L n e w' := by
  cases hs : Sl.sq L
  · have hf : facO L = false := by unfold facO; rw [hs]; rfl
    go_enter Try.func11, Try.ntmps11
    go_wp2_with (first | (go_at_call 25; refine (rsane8_c _ h en).mono ?_; rw [hs]; rintro e w' ⟨rfl, x, rfl⟩; have hm0 := x.h; generalize x.u = W0 at *; clear x))
    exact bodyPost_ret (v := .tuple #[.slice none 0 0, .slice none 0 0, .bool false]) (by simp [results, Try.results11, go_sem]) rfl ⟨hm0, .inr ⟨hf, rfl⟩⟩
  · obtain ⟨⟨h1, h6⟩, hr1⟩ := sq_ok hs en
    obtain ⟨i1, hj, hy0, hy1, hy2⟩ := info_parts infoS
    have hmk2 := run_make_row' (P := Try.prog) 23 3 (.int .i64 0) 8 Try.underlying23 infoI rfl .i64 .i64 n (by omega) (by omega)
    go_enter Try.func11, Try.ntmps11
    go_wp2_with (first | (go_at_call 25; refine (rsane8_c _ h en).mono ?_; rw [hs]; rintro e w' ⟨rfl, x, rfl⟩; have hm0 := x.h; generalize x.u = W0 at *; clear x))
    go_loopw [7, 8] (fun v i wr => ∃ k : Nat, k ≤ n ∧ i = .int .i64 k ∧ (∃ R, Og W0.heap.size wr v n k R) ∧ Bo wr W0.heap.size false ∧ Mr W0 wr) (fun _ i _ => (n - (intOf i).toNat))
    case atStart => exact ⟨0, by omega, rfl, ⟨fun _ => 0, World.ownsRow_nil _ _ _ _, fun i hi => by omega, fun i j hi => by omega⟩, World.rowIs_alloc W0 #[.bool false] 46 (fun _ => .bool false) (fun i hi => by simp at hi; subst hi; rfl), (by repeat (first | (with_reducible exact Mr.refl _) | (with_reducible assumption) | (with_reducible apply Mr.drew) | (with_reducible apply Mr.alloc) | (with_reducible apply Mr.ext) | (with_reducible refine Mr.setCell ?_ (by first | (simp; done) | (simp; omega) | omega | (refine leOf0 ?_; (repeat (first | (with_reducible exact Mr.refl _) | (with_reducible apply Mr.drew) | (with_reducible apply Mr.alloc) | (with_reducible apply Mr.ext) | (with_reducible refine Mr.setCell ?_ (by first | (simp; done) | (simp; omega) | omega) _))); done) | (refine leOf ?_; (repeat (first | (with_reducible exact Mr.refl _) | (with_reducible apply Mr.drew) | (with_reducible apply Mr.alloc) | (with_reducible apply Mr.ext) | (with_reducible refine Mr.setCell ?_ (by first | (simp; done) | (simp; omega) | omega) _))); done)) _)))⟩
    case round =>
      obtain ⟨k, hk, rfl, ⟨R, hO⟩, hB, hm⟩ := hrel
      by_cases hlt : k < n
      · have hlt' : (k : Int) < n := by omega
        have hsz := hm.below.size
        have hBox : ∀ w1 : World, ((wr.alloc (.cells (madeCells #[.int .i64 0] n) 3)).alloc (.cells #[.slice (some ⟨wr.heap.size, 0, none⟩) n n] 23)).grownBy w1 u7.ownBlock → Bo w1 W0.heap.size false := fun w1 hg => row_grown (by decide) ((World.rowIs.alloc hB _).alloc _) ((hO.1.alloc _).alloc _) hg
        have hmr : ∀ w1 : World, ((wr.alloc (.cells (madeCells #[.int .i64 0] n) 3)).alloc (.cells #[.slice (some ⟨wr.heap.size, 0, none⟩) n n] 23)).grownBy w1 u7.ownBlock → Mr W0 w1 := fun w1 hg => (((hm.alloc _).alloc _).grownBy hg (fun j e => (hO.1.lt j e).1))
        go_wp2_with (first | (at_builtin; refine wpList_append_own _ rfl _ _ 22 rfl W0.heap.size 23 i1 (.slice none 0 0) 1 24 Try.underlying22 hj hy0 hy1 hy2 rfl (by decide) _ _ _ rfl ((hO.1.alloc _).alloc _) ⟨wr.heap.size + 1, 0, none⟩ 1 1 [.slice (some ⟨wr.heap.size, 0, none⟩) n n] rfl rfl (cell_oneB _ _ _ (by simp)) (one_cellS _ _ _) (by unfold maxLen; omega) (by omega) (by simp; omega) ?_; intro v' w1 hown' hgrow _; have hO' := hO.push hsz rfl hown' hgrow; have hB' := hBox w1 hgrow; have hm' := hmr w1 hgrow; clear hgrow hown'))
        go_roundw
        case rel => exact ⟨k + 1, by omega, by go_num, ⟨_, hO'⟩, hB', hm'⟩
        case measure => simp [intOf]; omega
      · obtain rfl : k = n := by omega
        obtain ⟨g, cc, rfl, hC⟩ := hO.done h1
        clear hO
        obtain ⟨A, hA⟩ : ∃ A, nm L = A := ⟨_, rfl⟩
        obtain ⟨B, hBe⟩ : ∃ B, W0.heap.size = B := ⟨_, rfl⟩
        obtain ⟨D, hDe⟩ : ∃ D, wr.heap.size = D := ⟨_, rfl⟩
        have hwB : w.heap.size ≤ B := by have := hm0.below.size; omega
        have hRD : ∀ i, i < k → R i ≠ D := fun i hi => by have := (hC.row i hi).2.lt; omega
        have hgD : g ≠ D := by have := (hC.at' 0 (by omega)).1; omega
        have hwD : w.heap.size ≤ D := by have := hm.below.size; have := hm0.below.size; omega
        have hC' := hC.mr ((Mr.refl wr).alloc (.cells (madeCells #[.int .i64 0] k) 3))
        have hD' := World.rowIs_made wr (.int .i64 0) k 3
        have hB' := hB.mr ((Mr.refl wr).alloc (.cells (madeCells #[.int .i64 0] k) 3))
        have hm' : Mr w (wr.alloc (.cells (madeCells #[.int .i64 0] k) 3)) := (hm0.trans hm).alloc _
        rw [hBe] at hC' hB'
        rw [hDe] at hD'
        clear hC hB hm
        go_wp2
        simp only [hBe]
        obtain ⟨n, hn⟩ : ∃ n, k = n := ⟨_, rfl⟩
        subst hn
        go_loopw [10] (fun i wr => ∃ j : Nat, j ≤ k ∧ i = .int .i64 j ∧ Oc B wr g k cc R (Lj A j) ∧ wr.rowIs D 3 k (fun q => .int .i64 (Dj A j q)) ∧ Bo wr B (fb A k j) ∧ Mr w wr ∧ Hid (∀ q, q < j → rf' A q q = false ∧ 1 ≤ Df A q ∧ fb A k q = false)) (fun i _ => (k - (intOf i).toNat))
        case atStart => exact ⟨0, by omega, rfl, hC'.congr (fun p q _ _ => by unfold Lj; rw [if_neg (by omega)]), hD'.congr (fun q _ => by unfold Dj; rw [if_neg (by omega)]), by unfold fb anyB; simpa using hB', hm', fun q hq => by omega⟩
        case round =>
          clear hC' hD' hB' hm' hlt hmk2
          obtain ⟨j, hjk, rfl, hO, hd, hB, hm, HB⟩ := hrel
          by_cases hlt : j < k
          · have hlt' : (j : Int) < k := by omega
            obtain ⟨b1, o1, ra, rc, rfl, hb1w, hc1w, hIw⟩ := h.row j (by omega)
            rw [hr1 j hlt] at hc1w
            obtain ⟨b2, o2, rfl, hb2w, hc2w⟩ := hIw.num j (by rw [hr1 j hlt]; exact hlt)
            have hX : gt (rw' L j) j = A j j := by rw [← hA]; rfl
            rw [hX] at hc2w
            have hc1 := (hm.below.cell (p := ⟨b1, o1 + j, none⟩) hb1w).trans hc1w
            have hc2 := (hm.below.cell (p := ⟨b2, o2 + j, none⟩) hb2w).trans hc2w
            have hb1 : b1 < wr.heap.size := Nat.lt_of_lt_of_le hb1w hm.below.size
            have hb2 : b2 < wr.heap.size := Nat.lt_of_lt_of_le hb2w hm.below.size
            have hne1 : b1 ≠ B := by omega
            have hne2 : b2 ≠ B := by omega
            have nd1 : ¬ b1 = D := by omega
            have nd2 : ¬ b2 = D := by omega
            obtain ⟨hgl, hRB, hRl, hcl⟩ := hO.at' j hlt
            have hDlt := hd.lt
            obtain ⟨hr1', hr2'⟩ := rest_d A j
            have hset : ∀ w1 : World, Oc B w1 g k cc R (Lj A j) → w1.rowIs D 3 k (fun q => .int .i64 (Dj A j q)) → Bo w1 B (fb A k j || rf' A j j) → Mr w w1 → Oc B (w1.setCell ⟨D, j, none⟩ (.int .i64 (Df A j))) g k cc R (Lj A j) ∧ (w1.setCell ⟨D, j, none⟩ (.int .i64 (Df A j))).rowIs D 3 k (fun q => .int .i64 (Dj A (j + 1) q)) ∧ Bo (w1.setCell ⟨D, j, none⟩ (.int .i64 (Df A j))) B (fb A k j || rf' A j j) ∧ Mr w (w1.setCell ⟨D, j, none⟩ (.int .i64 (Df A j))) := fun w1 q1 q2 q3 q4 =>
              ⟨q1.other q2 hRD j _, (q2.set j _).congr (fun q _ => Dj_step A j q), World.rowIs.setOther q3 (fun e => q3.ne q2 e.symm) _, q4.setCell hwD _⟩
            have f1 : Hid (Df A j < 1 → facO L = false) := fun q => facO_no en hlt (by rw [hA]; exact okC_d q)
            have f2 : Hid ((fb A k j || rf' A j j) = true → facO L = false) := fun q => by
              rw [Bool.or_eq_true] at q
              rcases q with q | q
              · obtain ⟨r, hr, q⟩ := fb_yes q
                exact facO_no en (show r < k by omega) (by rw [hA]; exact q)
              · exact facO_no en hlt (by rw [hA]; exact okC_r q)
            have hX1 : Hid (Dj A (j + 1) j = Df A j) := by show Dj A (j + 1) j = Df A j; unfold Dj; rw [if_pos (by omega)]
            have f3 : Hid ((fb A k j || rf' A j j) = false → ¬ Df A j < 1 → ∀ q, q < j + 1 → rf' A q q = false ∧ 1 ≤ Df A q ∧ fb A k q = false) := fun q1 q2 q hq => by
              by_cases e : q < j
              · exact HB.out q e
              · obtain rfl : q = j := (by omega)
                rw [Bool.or_eq_false_iff] at q1
                exact ⟨q1.2, by omega, q1.1⟩
            obtain ⟨X, hXe⟩ : ∃ X, A j j = X := ⟨_, rfl⟩
            obtain ⟨X1, hX1e⟩ : ∃ X1, Df A j = X1 := ⟨_, rfl⟩
            obtain ⟨b0, hb0⟩ : ∃ b0, fb A k j = b0 := ⟨_, rfl⟩
            obtain ⟨Y1, hY1⟩ : ∃ Y1, rf' A j j = Y1 := ⟨_, rfl⟩
            rw [hXe, hX1e] at hr1'
            rw [hXe, hY1] at hr2'
            rw [hXe] at hc2
            rw [hb0] at hB
            rw [hX1e, hb0, hY1] at hset
            rw [hX1e] at f1 hX1
            rw [hb0, hY1] at f2
            rw [hb0, hY1, hX1e] at f3
            have hcall := rest_c (W := wr.drew) (World.rowIs.drew hB) X ((hO.row j hlt).2.drew) ((hO.row j hlt).2.drew) hd.drew (j := j) (by omega) h6
            rw [hr1', hr2'] at hcall
            clear hX hc1w hc2w hIw
            replace hXe : Hid (A j j = X) := hXe
            replace hX1e : Hid (Df A j = X1) := hX1e
            replace hb0 : Hid (fb A k j = b0) := hb0
            replace hY1 : Hid (rf' A j j = Y1) := hY1
            go_wp2
            go_region_held3 (fun w' => w'.cell? ⟨b1, o1 + j, none⟩ = some (.slice (some ⟨b2, o2, none⟩) k rc) ∧ w'.cell? ⟨b2, o2 + j, none⟩ = some (.int .i64 X) ∧ w'.cell? ⟨g, j, none⟩ = some (.slice (some ⟨R j, 0, none⟩) k k)) ((refine ⟨?_, ?_, ?_⟩ <;> first | assumption | (simp [go_sem, *]; done))) (first | (go_at_call 26; refine hcall.mono ?_; rintro e w1 ⟨rfl, hk1, hB1⟩; have hO1 := (hO.mr ((Mr.refl wr).drew)).kb (World.rowIs.drew hB) hk1; have hd1 := row_kb hd.drew (World.rowIs.drew hB) hk1; have hm1 := (hk1.mr hm.drew hwB); have c1 : w1.cell? ⟨b1, o1 + j, none⟩ = some (.slice (some ⟨b2, o2, none⟩) k rc) := (hk1.cell hb1 hne1).trans hc1; have c2 : w1.cell? ⟨b2, o2 + j, none⟩ = some (.int .i64 X) := (hk1.cell hb2 hne2).trans hc2; have c3 : w1.cell? ⟨g, j, none⟩ = some (.slice (some ⟨R j, 0, none⟩) k k) := (hO1.at' j hlt).2.2.2; have c4 := hd1.cell hlt; have c5 := hd1.frozen j; have c6 := hset w1 hO1 hd1 hB1 hm1))
            obtain ⟨q1, q2, q3, q4⟩ := c6
            generalize w1.setCell ⟨D, j, none⟩ (.int .i64 X1) = W3 at *
            clear c1 c2 c3 c4 c5 hk1 hB1 hO1 hd1 hm1 hcall hset hO hd hB hm hc1 hc2 hcl hgl hRl hRB hb1 hb2 hDlt hr1' hr2'
            have d1 := q2.cell hlt
            rw [hX1.out] at d1
            have d2 := World.rowIs.cell q3 (i := 0) (by omega)
            by_cases hx : X1 < 1
            · clear q1 q2 q3 h HB f2 f3
              go_wp2
              exact bodyPost_ret (v := .tuple #[.slice none 0 0, .slice none 0 0, .bool false]) (by simp [results, Try.results11, go_sem]) rfl ⟨q4, .inr ⟨f1.out hx, rfl⟩⟩
            · cases hb : (b0 || Y1)
              · rw [hb] at q3 d2 f3
                obtain ⟨hgl, hRB, hRl, hcl⟩ := q1.at' j hlt
                have hz1 := (q1.row j hlt).2.cell hlt
                have hz2 := (q1.row j hlt).2.frozen j
                have HB' : Hid (∀ q, q < j + 1 → rf' A q q = false ∧ 1 ≤ Df A q ∧ fb A k q = false) := f3.out (by simp) (by omega)
                have hO2 : Oc B (W3.setCell ⟨R j, j, none⟩ (.int .i64 4294967296)) g k cc R (Lm A j (j + 1)) := (q1.set j j hlt _).congr (fun p q _ _ => Lm_0 A j p q)
                have hd2 := q2.setOther (a := ⟨R j, j, none⟩) (fun e => hRD j hlt e.symm) (.int .i64 4294967296)
                have hB2 : Bo (W3.setCell ⟨R j, j, none⟩ (.int .i64 4294967296)) B false := World.rowIs.setOther q3 (fun e => q3.ne (q1.row j hlt).2 e.symm) _
                have hm2 : Mr w (W3.setCell ⟨R j, j, none⟩ (.int .i64 4294967296)) := q4.setCell (Nat.le_trans hwB hRB) _
                have fz : Hid (fb A k j = false) := (HB'.out j (by omega)).2.2
                clear q1 q2 q3 q4 HB f1 f2 f3
                go_wp2
                clear d1 d2 hgl hRl hcl hb
                generalize W3.setCell ⟨R j, j, none⟩ (.int .i64 4294967296) = W4 at *
                go_loopw [11] (fun i wr => ∃ m : Nat, j + 1 ≤ m ∧ m ≤ k ∧ i = .int .i64 m ∧ Oc B wr g k cc R (Lm A j m) ∧ wr.rowIs D 3 k (fun q => .int .i64 (Dj A (j + 1) q)) ∧ Bo wr B (bA A j (m - (j + 1))) ∧ Mr w wr) (fun i _ => (k - (intOf i).toNat))
                case atStart => exact ⟨j + 1, by omega, by omega, by go_num, hO2, hd2, by rw [Nat.sub_self]; exact hB2, hm2⟩
                case round =>
                  clear hO2 hd2 hB2 hm2 hz1 hz2
                  obtain ⟨m, hm0', hmk', rfl, hO, hd, hB, hm⟩ := hrel
                  by_cases hmt : m < k
                  · have hmt' : (m : Int) < k := by omega
                    obtain ⟨b3, o3, ra3, rc4, e3, -, hc1w, hIw⟩ := h.row m (by omega)
                    simp only [Option.some.injEq, Addr.mk.injEq] at e3
                    obtain ⟨rfl, rfl, -⟩ := e3
                    rw [hr1 m hmt] at hc1w
                    obtain ⟨b4, o4, rfl, hb4w, hc2w⟩ := hIw.num j (by rw [hr1 m hmt]; exact hlt)
                    have hX : gt (rw' L m) j = A m j := by rw [← hA]; rfl
                    rw [hX] at hc2w
                    have hc1 := (hm.below.cell (p := ⟨b1, o1 + m, none⟩) hb1w).trans hc1w
                    have hc2 := (hm.below.cell (p := ⟨b4, o4 + j, none⟩) hb4w).trans hc2w
                    have hb1 : b1 < wr.heap.size := Nat.lt_of_lt_of_le hb1w hm.below.size
                    have hb4 : b4 < wr.heap.size := Nat.lt_of_lt_of_le hb4w hm.below.size
                    have hne4 : b4 ≠ B := by omega
                    obtain ⟨hgl, hRm, hRl, hcl⟩ := hO.at' m hmt
                    have hcj := (hO.at' j hlt).2.2.2
                    have hDlt := hd.lt
                    have hDx : some (Value.int .i64 (Dj A (j + 1) j)) = some (.int .i64 X1) := by rw [hX1.out]
                    have hcd := (hd.cell hlt).trans hDx
                    have n1 : ¬ b1 = R m := by omega
                    have n4 : ¬ b4 = R m := by omega
                    have ng : ¬ g = R m := hO.ne (hO.row m hmt).2
                    have nD : ¬ D = R m := fun e => hRD m hmt e.symm
                    obtain ⟨hr1', hr2'⟩ := rest_l A m j m
                    have hL1 : Lf A m j = qv (rv' A m j) (Df A j) := Lf_eq A (by omega)
                    have hbA : Hid (bA A j (m + 1 - (j + 1)) = (bA A j (m - (j + 1)) || rf' A m j || qb (rv' A m j) (Df A j))) := by
                      show bA A j (m + 1 - (j + 1)) = _
                      rw [show m + 1 - (j + 1) = (m - (j + 1)) + 1 by omega]
                      unfold bA
                      rw [anyB_succ, show j + 1 + (m - (j + 1)) = m by omega]
                      unfold bF
                      rw [Bool.or_assoc]
                    have hset : ∀ w2 : World, Oc B w2 g k cc R (Lm A j m) → w2.rowIs D 3 k (fun q => .int .i64 (Dj A (j + 1) q)) → Bo w2 B (bA A j (m - (j + 1)) || rf' A m j || qb (rv' A m j) (Df A j)) → Mr w w2 → Oc B (w2.setCell ⟨R m, j, none⟩ (.int .i64 (qv (rv' A m j) (Df A j)))) g k cc R (Lm A j (m + 1)) ∧ (w2.setCell ⟨R m, j, none⟩ (.int .i64 (qv (rv' A m j) (Df A j)))).rowIs D 3 k (fun q => .int .i64 (Dj A (j + 1) q)) ∧ Bo (w2.setCell ⟨R m, j, none⟩ (.int .i64 (qv (rv' A m j) (Df A j)))) B (bA A j (m - (j + 1)) || rf' A m j || qb (rv' A m j) (Df A j)) ∧ Mr w (w2.setCell ⟨R m, j, none⟩ (.int .i64 (qv (rv' A m j) (Df A j)))) := fun w2 q1 q2 q3 q4 =>
                      ⟨by rw [← hL1]; exact (q1.set m j hmt _).congr (fun p q _ _ => Lm_step A j m p q), q2.setOther nD _, World.rowIs.setOther q3 (fun e => q3.ne (q1.row m hmt).2 e.symm) _, q4.setCell (Nat.le_trans hwB hRm) _⟩
                    obtain ⟨X, hXe⟩ : ∃ X, A m j = X := ⟨_, rfl⟩
                    obtain ⟨V1, hV1⟩ : ∃ V1, rv' A m j = V1 := ⟨_, rfl⟩
                    obtain ⟨b0, hb0⟩ : ∃ b0, bA A j (m - (j + 1)) = b0 := ⟨_, rfl⟩
                    obtain ⟨Y1, hY1⟩ : ∃ Y1, rf' A m j = Y1 := ⟨_, rfl⟩
                    obtain ⟨Z1, hZ1⟩ : ∃ Z1, qv V1 X1 = Z1 := ⟨_, rfl⟩
                    obtain ⟨U1, hU1⟩ : ∃ U1, qb V1 X1 = U1 := ⟨_, rfl⟩
                    have hDfe := hX1e.out
                    rw [hXe, hV1] at hr1'
                    rw [hXe, hY1] at hr2'
                    rw [hXe] at hc2
                    rw [hb0] at hB
                    rw [hb0, hY1, hV1, hDfe, hU1] at hbA
                    rw [hb0, hY1, hV1, hDfe, hZ1, hU1] at hset
                    have hq1' := hZ1
                    have hq2' := hU1
                    have hcall := rest_c (W := wr.drew) (World.rowIs.drew hB) X ((hO.row m hmt).2.drew) ((hO.row j hlt).2.drew) hd.drew (j := j) (by omega) h6
                    rw [hr1', hr2'] at hcall
                    clear hX hc1w hc2w hIw hL1 hXe hV1 hb0 hY1 hDfe hr1' hr2'
                    go_wp2
                    go_region_held3 (fun w' => w'.cell? ⟨b1, o1 + m, none⟩ = some (.slice (some ⟨b4, o4, none⟩) k rc4) ∧ w'.cell? ⟨b4, o4 + j, none⟩ = some (.int .i64 X) ∧ w'.cell? ⟨g, m, none⟩ = some (.slice (some ⟨R m, 0, none⟩) k k) ∧ w'.cell? ⟨g, j, none⟩ = some (.slice (some ⟨R j, 0, none⟩) k k) ∧ w'.cell? ⟨D, j, none⟩ = some (.int .i64 X1)) ((refine ⟨?_, ?_, ?_, ?_, ?_⟩ <;> first | assumption | (simp [go_sem, *]; done))) (first | (go_at_call 26; refine hcall.mono ?_; rintro e w1 ⟨rfl, hk1, hB1⟩; have hO1 := (hO.mr ((Mr.refl wr).drew)).kb (World.rowIs.drew hB) hk1; have hd1 := row_kb hd.drew (World.rowIs.drew hB) hk1; have hm1 := (hk1.mr hm.drew hwB); have c1 : w1.cell? ⟨b1, o1 + m, none⟩ = some (.slice (some ⟨b4, o4, none⟩) k rc4) := (hk1.cell hb1 hne1).trans hc1; have c2 : w1.cell? ⟨b4, o4 + j, none⟩ = some (.int .i64 X) := (hk1.cell hb4 hne4).trans hc2; have c3 : w1.cell? ⟨g, m, none⟩ = some (.slice (some ⟨R m, 0, none⟩) k k) := (hO1.at' m hmt).2.2.2; have c4 : w1.cell? ⟨g, j, none⟩ = some (.slice (some ⟨R j, 0, none⟩) k k) := (hO1.at' j hlt).2.2.2; have c5 : w1.cell? ⟨D, j, none⟩ = some (.int .i64 X1) := (hd1.cell hlt).trans hDx) | (go_at_call 27; refine (over_c hB1 V1 X1).mono ?_; rw [hq1', hq2']; rintro e w2 ⟨rfl, hk2, hB2⟩; have hO2 := hO1.kb hB1 hk2; have hd2 := row_kb hd1 hB1 hk2; have hm2 := (hk2.mr hm1 hwB); have e1 : w2.cell? ⟨b1, o1 + m, none⟩ = some (.slice (some ⟨b4, o4, none⟩) k rc4) := (hk2.cell (Nat.lt_of_lt_of_le hb1 hk1.size) hne1).trans c1; have e2 : w2.cell? ⟨b4, o4 + j, none⟩ = some (.int .i64 X) := (hk2.cell (Nat.lt_of_lt_of_le hb4 hk1.size) hne4).trans c2; have e3 : w2.cell? ⟨g, m, none⟩ = some (.slice (some ⟨R m, 0, none⟩) k k) := (hO2.at' m hmt).2.2.2; have e4 : w2.cell? ⟨g, j, none⟩ = some (.slice (some ⟨R j, 0, none⟩) k k) := (hO2.at' j hlt).2.2.2; have e5 : w2.cell? ⟨D, j, none⟩ = some (.int .i64 X1) := (hd2.cell hlt).trans hDx; have e6 := (hO2.row m hmt).2.cell hlt; have e7 := (hO2.row m hmt).2.frozen j; have e8 := hset w2 hO2 hd2 hB2 hm2))
                    obtain ⟨q1, q2, q3, q4⟩ := e8
                    generalize w2.setCell ⟨R m, j, none⟩ (.int .i64 Z1) = W5 at *
                    clear c1 c2 c3 c4 c5 hk1 hB1 hO1 hd1 hm1 hcall hset hO hd hB hm hc1 hc2 hcl hgl hRl hb1 hb4 hDlt e1 e2 e3 e4 e5 e6 e7 hO2 hd2 hB2 hm2 hk2 hcj hcd
                    go_wp2
                    go_roundw
                    case rel => exact ⟨m + 1, by omega, by omega, by go_num, q1, q2, by rw [hbA.out]; exact q3, q4⟩
                    case measure => simp [intOf]; omega
                  · obtain rfl : m = k := by omega
                    have hF : Hid (fb A m (j + 1) = bA A j (m - (j + 1))) := by
                      show fb A m (j + 1) = _
                      have := fz.out
                      unfold fb at this ⊢
                      rw [anyB_succ, this, Bool.false_or, show m - 1 - j = m - (j + 1) by omega]
                    have hO3 := hO.congr (G := Lj A (j + 1)) (fun p q hp _ => Lm_all hp q)
                    clear hO h
                    go_wp2
                    go_roundw
                    case rel => exact ⟨j + 1, by omega, by go_num, hO3, hd, by rw [hF.out]; exact hB, hm, HB'⟩
                    case measure => simp [intOf]; omega
              · rw [hb] at q3 d2 f2
                clear q1 q2 q3 h HB f1 f3
                go_wp2
                exact bodyPost_ret (v := .tuple #[.slice none 0 0, .slice none 0 0, .bool false]) (by simp [results, Try.results11, go_sem]) rfl ⟨q4, .inr ⟨f2.out (by simp), rfl⟩⟩
          · obtain rfl : j = k := by omega
            have d2 := World.rowIs.cell hB (i := 0) (by omega)
            cases hb : fb A j j
            · rw [hb] at d2
              have hfo : facO L = true := by
                unfold facO
                rw [hs, en, Bool.true_and, okA_iff, hA]
                exact fun q hq => okC_yes (HB.out q hq).1 (HB.out q hq).2.1 (fb_no hb q hq)
              have hO3 : Oc w.heap.size wr g j cc R (Lf (nm L)) := by
                have q := hO.congr (G := Lf (nm L)) (fun p q _ hq => by unfold Lj; rw [if_pos hq, hA])
                exact ⟨Nat.le_trans hwB q.hB, q.le, q.max, q.lst, fun i hi => ⟨Nat.le_trans hwB (q.row i hi).1, (q.row i hi).2⟩, q.inj⟩
              have hd3 := hd.congr (g := fun q => .int .i64 (Df (nm L) q)) (fun q hq => by unfold Dj; rw [if_pos hq, hA])
              clear hO hd hB h HB hb
              go_wp2
              exact bodyPost_ret (v := .tuple #[.slice (some ⟨g, 0, none⟩) j cc, .slice (some ⟨D, 0, none⟩) j j, .bool true]) (by simp [results, Try.results11, go_sem]) rfl ⟨hm, .inl ⟨hfo, g, cc, R, D, rfl, hO3, hwD, hd3, hRD⟩⟩
            · rw [hb] at d2
              have hfo : facO L = false := by
                obtain ⟨r, hr, q⟩ := fb_yes hb
                exact facO_no en hr (by rw [hA]; exact q)
              clear hO hd hB h HB hb
              go_wp2
              exact bodyPost_ret (v := .tuple #[.slice none 0 0, .slice none 0 0, .bool false]) (by simp [results, Try.results11, go_sem]) rfl ⟨hm, .inr ⟨hfo, rfl⟩⟩
end Sv
end Go.Proofs.Ytpammdogkkipbaa
