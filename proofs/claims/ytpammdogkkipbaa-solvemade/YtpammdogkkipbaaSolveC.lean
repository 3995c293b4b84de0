/- The contracts of package solve, last part: its two calls. -/
import Derived.Test.YtpammdogkkipbaaSolveC4
import Derived.Test.YtpammdogkkipbaaSolveN
namespace Go.Proofs.Ytpammdogkkipbaa
open Go.ChangeShapes Go.WideShapes Go.ChangeAt Go.RowKit
open Go.Proofs.Ytpammdogkkipbaa.Fx Go.Proofs.Ytpammdogkkipbaa.Sl Go.Proofs.Ytpammdogkkipbaa.Sm Go.Proofs.Ytpammdogkkipbaa.Vc
set_option linter.unusedVariables false
set_option linter.unusedSimpArgs false
attribute [local go_sem] Ext.cell Ext.froz Ext.lt Ext.lt1 Ext.lt2 Ext.lt3 Ext.all drew_heap setCell_size Ext.set_size
namespace Sv
open Ma
set_option maxHeartbeats 1000000 in
theorem fac1_n {a : Option Addr} {c n ab lb db : Nat} {L : List (List Int)} (w : World) (h : Rs w a c L) (en : L.length = n) (hf : facO L = false) (ha : Bx w ab (.slice a n c)) :
    Calls Try.prog 23 #[.pointer (some ⟨ab, 0, none⟩), .pointer (some ⟨lb, 0, none⟩), .pointer (some ⟨db, 0, none⟩)] w fun e w' => Lost e ∧ Mr w w' := by
  obtain ⟨l1, c1, -⟩ := ha
  go_enter Try.func23, Try.ntmps23
  go_wp2_with (first | (go_at_call 24; refine (sfactors_c _ h en).mono ?_; rintro e w1 ⟨hm0, ⟨q, -⟩ | ⟨-, u, pv, rfl⟩⟩; exact absurd (hf.symm.trans q) (by decide)))
  exact ⟨rfl, ⟨_, _, rfl⟩, hm0⟩
set_option maxHeartbeats 1000000 in
theorem fac1_y {a : Option Addr} {c n ab lb db : Nat} {z1 z2 : Value} {L : List (List Int)} (w : World) (h : Rs w a c L) (en : L.length = n) (hf : facO L = true) (ha : Bx w ab (.slice a n c)) (hl : Bx w lb z1) (hd0 : Bx w db z2) (ne : lb ≠ db) :
    Calls Try.prog 23 #[.pointer (some ⟨ab, 0, none⟩), .pointer (some ⟨lb, 0, none⟩), .pointer (some ⟨db, 0, none⟩)] w fun e w' => e = .returned (.tuple #[]) ∧ ∃ W g R D, Mr w W ∧ Om w.heap.size W g n R (Lf (nm L)) ∧ w.heap.size ≤ D ∧ W.rowIs D 3 n (fun k => .int .i64 (Df (nm L) k)) ∧ w' = (W.setCell ⟨lb, 0, none⟩ (.slice (some ⟨g, 0, none⟩) n n)).setCell ⟨db, 0, none⟩ (.slice (some ⟨D, 0, none⟩) n n) := by
  obtain ⟨l1, c1, -⟩ := ha
  have ne1 : ¬ lb = db := ne
  have ne2 : ¬ db = lb := fun e => ne e.symm
  go_enter Try.func23, Try.ntmps23
  go_wp2_with (first | ((go_at_call 24; refine (sfactors_c _ h en).mono ?_; rintro e w1 ⟨hm0, ⟨hfo, g, R, D, rfl, hO, hwD, hd, hRD⟩ | ⟨q, -⟩⟩; rotate_left; exact absurd (hf.symm.trans q) (by decide); have hl1 := hl.mr hm0; have hd1 := hd0.mr hm0); obtain ⟨l2, c2, f2⟩ := hl1; obtain ⟨l3, c3, f3⟩ := hd1))
  go_end0
  exact ⟨rfl, w1, g, R, D, hm0, hO, hwD, hd, rfl⟩
set_option maxHeartbeats 1000000 in
theorem sol1_n {a b : Option Addr} {c d n m ab bb xb : Nat} {A : List (List Int)} {v : List Int} (w : World) (h : Rs w a c A) (en : A.length = n) (gv : Is w b d v) (em : v.length = m) (hf : solO A v = false) (ha : Bx w ab (.slice a n c)) (hb : Bx w bb (.slice b m d)) :
    Calls Try.prog 28 #[.pointer (some ⟨ab, 0, none⟩), .pointer (some ⟨bb, 0, none⟩), .pointer (some ⟨xb, 0, none⟩)] w fun e w' => Lost e ∧ Mr w w' := by
  obtain ⟨l1, c1, -⟩ := ha
  obtain ⟨l2, c2, -⟩ := hb
  go_enter Try.func28, Try.ntmps28
  go_wp2_with (first | (go_at_call 29; refine (ssolved_c _ h en gv em).mono ?_; rintro e w1 ⟨hm0, ⟨q, -⟩ | ⟨-, u, pv, rfl⟩⟩; exact absurd (hf.symm.trans q) (by decide)))
  exact ⟨rfl, ⟨_, _, rfl⟩, hm0⟩
set_option maxHeartbeats 1000000 in
theorem sol1_y {a b : Option Addr} {c d n m ab bb xb : Nat} {z : Value} {A : List (List Int)} {v : List Int} (w : World) (h : Rs w a c A) (en : A.length = n) (gv : Is w b d v) (em : v.length = m) (hf : solO A v = true) (ha : Bx w ab (.slice a n c)) (hb : Bx w bb (.slice b m d)) (hxb : Bx w xb z) :
    Calls Try.prog 28 #[.pointer (some ⟨ab, 0, none⟩), .pointer (some ⟨bb, 0, none⟩), .pointer (some ⟨xb, 0, none⟩)] w fun e w' => e = .returned (.tuple #[]) ∧ ∃ W X, Mr w W ∧ w.heap.size ≤ X ∧ W.rowIs X 3 m (fun k => .int .i64 (Xf (Zf (gt v) (Lf (nm A)) (Df (nm A))) (Lf (nm A)) m k)) ∧ w' = W.setCell ⟨xb, 0, none⟩ (.slice (some ⟨X, 0, none⟩) m m) := by
  obtain ⟨l1, c1, -⟩ := ha
  obtain ⟨l2, c2, -⟩ := hb
  go_enter Try.func28, Try.ntmps28
  go_wp2_with (first | ((go_at_call 29; refine (ssolved_c _ h en gv em).mono ?_; rintro e w1 ⟨hm0, ⟨hfo, X, rfl, hwX, hx⟩ | ⟨q, -⟩⟩; rotate_left; exact absurd (hf.symm.trans q) (by decide); have hx1 := hxb.mr hm0); obtain ⟨l3, c3, f3⟩ := hx1))
  go_end0
  exact ⟨rfl, w1, X, hm0, hwX, hx, rfl⟩
theorem bx_cell {W : World} {b : Nat} {v : Value} (h : Bx W b v) (q : Nat) (u : Value) (ne : b ≠ q) : Bx (W.setCell ⟨q, 0, none⟩ u) b v := by
  obtain ⟨h1, h2, h3⟩ := h
  exact ⟨by rw [setCell_size]; exact h1, by simp [go_sem, h2, ne], by simp [go_sem, h3]⟩
theorem bx_set {W : World} {b : Nat} {v : Value} (h : Bx W b v) (u : Value) : Bx (W.setCell ⟨b, 0, none⟩ u) b u := by
  obtain ⟨h1, h2, h3⟩ := h
  exact ⟨by rw [setCell_size]; exact h1, by simp [go_sem, h2], by simp [go_sem, h3]⟩
theorem bx_new {W : World} {b t : Nat} {v : Value} (hb : b = W.heap.size) : Bx (W.alloc (.cells #[v] t)) b v := Bx.one (rw_one hb)
theorem bx_alloc {W : World} {b : Nat} {v : Value} (h : Bx W b v) (o : Obj) : Bx (W.alloc o) b v := h.mr ((Mr.refl W).alloc o)
set_option maxRecDepth 100000 in
set_option maxHeartbeats 2000000 in
theorem sfactor_u {a : Option Addr} {c n : Nat} {L : List (List Int)} {w : World} (h : Rs w a c L) (en : L.length = n) : Ret3 Try.prog 10 #[.slice a n c] w (facL L) (facD L) (facO L) := by
  unfold Ret3
  have b1 : Bx ((((w.alloc (.cells #[.slice a n c] 22)).alloc (.cells #[.slice none 0 0] 22)).alloc (.cells #[.slice none 0 0] 23)).alloc (.cells #[.bool false] 4)) w.heap.size (.slice a n c) := bx_alloc (bx_alloc (bx_alloc (bx_new rfl) _) _) _
  have b2 : Bx ((((w.alloc (.cells #[.slice a n c] 22)).alloc (.cells #[.slice none 0 0] 22)).alloc (.cells #[.slice none 0 0] 23)).alloc (.cells #[.bool false] 4)) (w.heap.size + 1) (.slice none 0 0) := bx_alloc (bx_alloc (bx_new (by simp)) _) _
  have b3 : Bx ((((w.alloc (.cells #[.slice a n c] 22)).alloc (.cells #[.slice none 0 0] 22)).alloc (.cells #[.slice none 0 0] 23)).alloc (.cells #[.bool false] 4)) (w.heap.size + 1 + 1) (.slice none 0 0) := bx_alloc (bx_new (by simp)) _
  have b4 : Bx ((((w.alloc (.cells #[.slice a n c] 22)).alloc (.cells #[.slice none 0 0] 22)).alloc (.cells #[.slice none 0 0] 23)).alloc (.cells #[.bool false] 4)) (w.heap.size + 1 + 1 + 1) (.bool false) := bx_new (by simp)
  have m0 : Mr w ((((w.alloc (.cells #[.slice a n c] 22)).alloc (.cells #[.slice none 0 0] 22)).alloc (.cells #[.slice none 0 0] 23)).alloc (.cells #[.bool false] 4)) := ((((Mr.refl w).alloc _).alloc _).alloc _).alloc _
  have hsz : (((w.alloc (.cells #[.slice a n c] 22)).alloc (.cells #[.slice none 0 0] 22)).alloc (.cells #[.slice none 0 0] 23)).heap.size = w.heap.size + 1 + 1 + 1 := by simp
  have hmf : ∀ (fn : Fn) (first cap : Array Value) (w : World), (Instr.makeFunc fn first cap).run Try.prog w = .ok (.func fn first cap) w := fun _ _ _ _ => rfl
  cases hf : facO L
  · have hE := ends_n 23 #[.pointer (some ⟨w.heap.size, 0, none⟩), .pointer (some ⟨w.heap.size + 1, 0, none⟩), .pointer (some ⟨w.heap.size + 1 + 1, 0, none⟩)] _ _ (fun args W => by simp [go_sem]) (fac1_n _ (h.mr m0) en hf b1) (fun W hW => by rw [hsz]; exact ⟨⟨_, (b4.mr hW).cell⟩, (b4.mr hW).fz⟩)
    rw [hsz] at hE
    have hB : w.heap.size ≤ w.heap.size + 1 + 1 + 1 := by omega
    have ne2 : w.heap.size + 1 ≠ w.heap.size + 1 + 1 + 1 := by omega
    have ne3 : w.heap.size + 1 + 1 ≠ w.heap.size + 1 + 1 + 1 := by omega
    obtain ⟨B, hBe⟩ : ∃ B, w.heap.size + 1 + 1 + 1 = B := ⟨_, rfl⟩
    rw [hBe] at hE hB ne2 ne3
    clear b1 b4 hsz hBe
    go_enter Try.func10, Try.ntmps10
    go_wp2_with (first | (go_at_call 22; refine hE.mono ?_; rintro e w' ⟨rfl, W, hk, rfl⟩; have k2 := bx_cell (b2.mr hk) B (.bool false) ne2; have k3 := bx_cell (b3.mr hk) B (.bool false) ne3; have hmW : Mr w (W.setCell ⟨B, 0, none⟩ (.bool false)) := (m0.trans hk).setCell hB _; generalize W.setCell ⟨B, 0, none⟩ (.bool false) = W9 at *; obtain ⟨l2, c2, -⟩ := k2; obtain ⟨l3, c3, -⟩ := k3))
    go_region
    go_wp2_with fail
    have e1 : facL L = [] := by unfold facL; rw [hf]; rfl
    have e2 : facD L = [] := by unfold facD; rw [hf]; rfl
    rw [e1, e2]
    exact bodyPost_ret (v := .tuple #[.slice none 0 0, .slice none 0 0, .bool false]) (by simp [results, Try.results10, go_sem]) rfl ⟨none, 0, none, 0, rfl, ⟨_, hmW.drew⟩, rfl, rs_nil _, is_nil0 _⟩
  · have h6 := (sq_n (facO_sq hf).1).2
    have e1 : facL L = mkR (fun i => Ma.mk (Lf (nm L) i) n) n := by unfold facL; rw [hf, if_pos rfl, en]
    have e2 : facD L = Ma.mk (Df (nm L)) n := by unfold facD; rw [hf, if_pos rfl, en]
    rw [en] at h6
    rw [e1, e2, mkR_length, mk_length]
    have hsz4 : ((((w.alloc (.cells #[.slice a n c] 22)).alloc (.cells #[.slice none 0 0] 22)).alloc (.cells #[.slice none 0 0] 23)).alloc (.cells #[.bool false] 4)).heap.size = w.heap.size + 1 + 1 + 1 + 1 := by simp
    have hE := ends_y 23 #[.pointer (some ⟨w.heap.size, 0, none⟩), .pointer (some ⟨w.heap.size + 1, 0, none⟩), .pointer (some ⟨w.heap.size + 1 + 1, 0, none⟩)] _ _ (fun args W => by simp [go_sem]) (fac1_y _ (h.mr m0) en hf b1 b2 b3 (by omega)) (by
      rintro W' ⟨W, g, R, D, hm, -, -, -, rfl⟩
      rw [hsz]
      have k := bx_cell (bx_cell (b4.mr hm) (w.heap.size + 1) (.slice (some ⟨g, 0, none⟩) n n) (by omega)) (w.heap.size + 1 + 1) (.slice (some ⟨D, 0, none⟩) n n) (by omega)
      exact ⟨⟨_, k.cell⟩, k.fz⟩)
    rw [hsz] at hE
    clear b1 b4 hsz
    go_enter Try.func10, Try.ntmps10
    go_wp2_with (first | (go_at_call 22; refine hE.mono ?_; rintro e w' ⟨rfl, W', ⟨W, g, R, D, hm, hO, hwD, hd, rfl⟩, rfl⟩; have k2 := bx_cell (bx_cell (bx_set (b2.mr hm) (.slice (some ⟨g, 0, none⟩) n n)) (w.heap.size + 1 + 1) (.slice (some ⟨D, 0, none⟩) n n) (by omega)) (w.heap.size + 1 + 1 + 1) (.bool true) (by omega); have k3 := bx_cell (bx_set (bx_cell (b3.mr hm) (w.heap.size + 1) (.slice (some ⟨g, 0, none⟩) n n) (by omega)) (.slice (some ⟨D, 0, none⟩) n n)) (w.heap.size + 1 + 1 + 1) (.bool true) (by omega); have hg := hO.hB; have hR := fun i hi => (hO.row i hi).1; rw [hsz4] at hg hR hwD; have hO2 := om_set (b := w.heap.size + 1 + 1 + 1) (v := .bool true) (om_set (b := w.heap.size + 1 + 1) (v := .slice (some ⟨D, 0, none⟩) n n) (om_set (b := w.heap.size + 1) (v := .slice (some ⟨g, 0, none⟩) n n) hO (by omega) (fun i hi => by have := hR i hi; omega)) (by omega) (fun i hi => by have := hR i hi; omega)) (by omega) (fun i hi => by have := hR i hi; omega); have hd2 := rw_other (b' := w.heap.size + 1 + 1 + 1) (o := 0) (v := .bool true) (rw_other (b' := w.heap.size + 1 + 1) (o := 0) (v := .slice (some ⟨D, 0, none⟩) n n) (rw_other (b' := w.heap.size + 1) (o := 0) (v := .slice (some ⟨g, 0, none⟩) n n) hd (by omega)) (by omega)) (by omega); have hmW : Mr w (((W.setCell ⟨w.heap.size + 1, 0, none⟩ (.slice (some ⟨g, 0, none⟩) n n)).setCell ⟨w.heap.size + 1 + 1, 0, none⟩ (.slice (some ⟨D, 0, none⟩) n n)).setCell ⟨w.heap.size + 1 + 1 + 1, 0, none⟩ (.bool true)) := (((m0.trans hm).setCell (by first | (simp; done) | (simp; omega)) _).setCell (by first | (simp; done) | (simp; omega)) _).setCell (by first | (simp; done) | (simp; omega)) _; generalize ((W.setCell ⟨w.heap.size + 1, 0, none⟩ (.slice (some ⟨g, 0, none⟩) n n)).setCell ⟨w.heap.size + 1 + 1, 0, none⟩ (.slice (some ⟨D, 0, none⟩) n n)).setCell ⟨w.heap.size + 1 + 1 + 1, 0, none⟩ (.bool true) = W9 at *; obtain ⟨l2, c2, -⟩ := k2; obtain ⟨l3, c3, -⟩ := k3))
    go_region
    go_wp2_with fail
    exact bodyPost_ret (v := .tuple #[.slice (some ⟨g, 0, none⟩) n n, .slice (some ⟨D, 0, none⟩) n n, .bool true]) (by simp [results, Try.results10, go_sem]) rfl ⟨_, _, _, _, rfl, ⟨_, hmW.drew⟩, rfl, (hO2.mr (Mr.refl _).drew).done (by unfold maxLen; omega) (fun i j _ _ => by have := Lf_bd (nm L) i j; omega), is_rowIs hd2.drew (by unfold maxLen; omega) (fun j _ => by have := Df_bd (nm L) j; omega)⟩
set_option maxRecDepth 100000 in
set_option maxHeartbeats 2000000 in
theorem ssolve_u {a b : Option Addr} {c d n m : Nat} {A : List (List Int)} {v : List Int} {w : World} (h : Rs w a c A) (en : A.length = n) (gv : Is w b d v) (em : v.length = m) : RetV Try.prog 12 #[.slice a n c, .slice b m d] w (solX A v) (solO A v) := by
  unfold RetV
  have b1 : Bx ((((w.alloc (.cells #[.slice a n c] 22)).alloc (.cells #[.slice b m d] 23)).alloc (.cells #[.slice none 0 0] 23)).alloc (.cells #[.bool false] 4)) w.heap.size (.slice a n c) := bx_alloc (bx_alloc (bx_alloc (bx_new rfl) _) _) _
  have b2 : Bx ((((w.alloc (.cells #[.slice a n c] 22)).alloc (.cells #[.slice b m d] 23)).alloc (.cells #[.slice none 0 0] 23)).alloc (.cells #[.bool false] 4)) (w.heap.size + 1) (.slice b m d) := bx_alloc (bx_alloc (bx_new (by simp)) _) _
  have b3 : Bx ((((w.alloc (.cells #[.slice a n c] 22)).alloc (.cells #[.slice b m d] 23)).alloc (.cells #[.slice none 0 0] 23)).alloc (.cells #[.bool false] 4)) (w.heap.size + 1 + 1) (.slice none 0 0) := bx_alloc (bx_new (by simp)) _
  have b4 : Bx ((((w.alloc (.cells #[.slice a n c] 22)).alloc (.cells #[.slice b m d] 23)).alloc (.cells #[.slice none 0 0] 23)).alloc (.cells #[.bool false] 4)) (w.heap.size + 1 + 1 + 1) (.bool false) := bx_new (by simp)
  have m0 : Mr w ((((w.alloc (.cells #[.slice a n c] 22)).alloc (.cells #[.slice b m d] 23)).alloc (.cells #[.slice none 0 0] 23)).alloc (.cells #[.bool false] 4)) := ((((Mr.refl w).alloc _).alloc _).alloc _).alloc _
  have hsz : (((w.alloc (.cells #[.slice a n c] 22)).alloc (.cells #[.slice b m d] 23)).alloc (.cells #[.slice none 0 0] 23)).heap.size = w.heap.size + 1 + 1 + 1 := by simp
  have hsz4 : ((((w.alloc (.cells #[.slice a n c] 22)).alloc (.cells #[.slice b m d] 23)).alloc (.cells #[.slice none 0 0] 23)).alloc (.cells #[.bool false] 4)).heap.size = w.heap.size + 1 + 1 + 1 + 1 := by simp
  have hmf : ∀ (fn : Fn) (first cap : Array Value) (w : World), (Instr.makeFunc fn first cap).run Try.prog w = .ok (.func fn first cap) w := fun _ _ _ _ => rfl
  cases hf : solO A v
  · have hE := ends_n 28 #[.pointer (some ⟨w.heap.size, 0, none⟩), .pointer (some ⟨w.heap.size + 1, 0, none⟩), .pointer (some ⟨w.heap.size + 1 + 1, 0, none⟩)] _ _ (fun args W => by simp [go_sem]) (sol1_n _ (h.mr m0) en (gv.mr m0) em hf b1 b2) (fun W hW => by rw [hsz]; exact ⟨⟨_, (b4.mr hW).cell⟩, (b4.mr hW).fz⟩)
    rw [hsz] at hE
    have e1 : solX A v = [] := by unfold solX; rw [hf]; rfl
    rw [e1]
    clear b1 b2 b4 hsz
    go_enter Try.func12, Try.ntmps12
    go_wp2_with (first | (go_at_call 22; refine hE.mono ?_; rintro e w' ⟨rfl, W, hk, rfl⟩; have k3 := bx_cell (b3.mr hk) (w.heap.size + 1 + 1 + 1) (.bool false) (by omega); have hmW : Mr w (W.setCell ⟨w.heap.size + 1 + 1 + 1, 0, none⟩ (.bool false)) := (m0.trans hk).setCell (by first | (simp; done) | (simp; omega)) _; generalize W.setCell ⟨w.heap.size + 1 + 1 + 1, 0, none⟩ (.bool false) = W9 at *; obtain ⟨l3, c3, -⟩ := k3))
    go_ret2
    exact ⟨none, 0, rfl, ⟨_, hmW⟩, rfl, is_nil0 _⟩
  · obtain ⟨hl, hs⟩ := solO_len hf
    have h6 := (sq_n hs).2
    have e1 : solX A v = Ma.mk (Xf (Zf (gt v) (Lf (nm A)) (Df (nm A))) (Lf (nm A)) m) m := by unfold solX; rw [hf, if_pos rfl, ← hl, em]
    rw [← hl, em] at h6
    rw [e1, mk_length]
    have hE := ends_y 28 #[.pointer (some ⟨w.heap.size, 0, none⟩), .pointer (some ⟨w.heap.size + 1, 0, none⟩), .pointer (some ⟨w.heap.size + 1 + 1, 0, none⟩)] _ _ (fun args W => by simp [go_sem]) (sol1_y _ (h.mr m0) en (gv.mr m0) em hf b1 b2 b3) (by
      rintro W' ⟨W, X, hm, -, -, rfl⟩
      rw [hsz]
      have k := bx_cell (b4.mr hm) (w.heap.size + 1 + 1) (.slice (some ⟨X, 0, none⟩) m m) (by omega)
      exact ⟨⟨_, k.cell⟩, k.fz⟩)
    rw [hsz] at hE
    clear b1 b2 b4 hsz
    go_enter Try.func12, Try.ntmps12
    go_wp2_with (first | (go_at_call 22; refine hE.mono ?_; rintro e w' ⟨rfl, W', ⟨W, X, hm, hwX, hx, rfl⟩, rfl⟩; have k3 := bx_cell (bx_set (b3.mr hm) (.slice (some ⟨X, 0, none⟩) m m)) (w.heap.size + 1 + 1 + 1) (.bool true) (by omega); rw [hsz4] at hwX; have hx2 := rw_other (b' := w.heap.size + 1 + 1 + 1) (o := 0) (v := .bool true) (rw_other (b' := w.heap.size + 1 + 1) (o := 0) (v := .slice (some ⟨X, 0, none⟩) m m) hx (by omega)) (by omega); have hmW : Mr w ((W.setCell ⟨w.heap.size + 1 + 1, 0, none⟩ (.slice (some ⟨X, 0, none⟩) m m)).setCell ⟨w.heap.size + 1 + 1 + 1, 0, none⟩ (.bool true)) := ((m0.trans hm).setCell (by first | (simp; done) | (simp; omega)) _).setCell (by first | (simp; done) | (simp; omega)) _; generalize (W.setCell ⟨w.heap.size + 1 + 1, 0, none⟩ (.slice (some ⟨X, 0, none⟩) m m)).setCell ⟨w.heap.size + 1 + 1 + 1, 0, none⟩ (.bool true) = W9 at *; obtain ⟨l3, c3, -⟩ := k3))
    go_ret2
    exact ⟨_, _, rfl, ⟨_, hmW⟩, rfl, is_rowIs hx2 (by unfold maxLen; omega) (fun j hj => by have := Xf_bd (z := Zf (gt v) (Lf (nm A)) (Df (nm A))) (Lf (nm A)) m j hj (fun k => Sc.qv_bd _ _); omega)⟩
end Sv
end Go.Proofs.Ytpammdogkkipbaa
