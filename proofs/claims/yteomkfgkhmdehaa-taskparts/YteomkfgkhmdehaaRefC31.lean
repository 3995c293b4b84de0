/- The contracts of the document's own answers of layer 12, second part: Start, Step. -/
import Derived.Test.YteomkfgkhmdehaaRefC30
namespace Go.Proofs.Yteomkfgkhmdehaa
open Go.ChangeShapes Go.WideShapes Go.ChangeAt Go.RowKit
set_option linter.unusedVariables false
set_option linter.unusedSimpArgs false
attribute [local go_sem] Ext.cell Ext.froz Ext.lt Ext.lt1 Ext.lt2 Ext.lt3 Ext.all Ext.set_u drew_heap setCell_size Ext.set_size
attribute [-go_sem] Instr.build
namespace Tk
open Wl Ce Rw
/-- The instructions' slice of what Start answers. -/
def sa (l : List Ins) (a : Option Addr) : Option Addr := if sane l then a else none
def sc (l : List Ins) (c : Nat) : Nat := if sane l then c else 0
theorem tok_zeros (l : List Ins) (d : Bool) (a : Int) (ha : -9223372036854775808 ≤ a ∧ a ≤ 9223372036854775807) : Tok ⟨l, 0, zeros, d, a⟩ :=
  ⟨by simp [zeros], fun j => by
    have e : gt zeros j = 0 := by
      unfold gt zeros
      rw [List.getD_eq_getElem?_getD, List.getElem?_replicate]
      split <;> rfl
    show 0 ≤ gt zeros j ∧ gt zeros j ≤ 18446744073709551615
    rw [e]; omega, by simp, ha⟩
theorem tok_nought : Tok nought := tok_zeros [] true (-1) (by omega)
theorem build_nought (w : World) : (Instr.build 37 #[(3, .bool true), (4, .int .i64 (-1))]).run Try.prog w = .ok (.agg (TV none 0 nought)) w := run_build w _ _ _ (by kernel_rfl)
theorem build_start (w : World) (a : Option Addr) (c : Nat) (l : List Ins) : (Instr.build 37 #[(0, .slice a l.length c)]).run Try.prog w = .ok (.agg (TV a c ⟨l, 0, zeros, false, 0⟩)) w := run_build w _ _ _ (by kernel_rfl)
set_option maxRecDepth 100000 in
set_option maxHeartbeats 2000000 in
theorem rstart12_c {a : Option Addr} {c n : Nat} {l : List Ins} (w : World) (h : Inss w a c l) (en : l.length = n) :
    Calls Try.prog 19 #[.slice a n c] w fun e w' => e = .returned (.agg (TV (sa l a) (sc l c) (start l))) ∧ ∃ x : Ext w, w' = x.u := by
  obtain ⟨Z, hZe⟩ : ∃ Z, Z = TV none 0 ⟨[], 0, zeros, false, 0⟩ := ⟨_, rfl⟩
  have hZs : Z.size = 36 := by rw [hZe]; exact TV_size rfl
  have hZ0 : Row (w.alloc (.cells (TV none 0 ⟨[], 0, zeros, false, 0⟩) 37)) w.heap.size 37 Z := by rw [hZe]; exact Row.new _ _ _
  cases hs : sane l
  · have e1 : start l = nought := by unfold start; rw [hs]; rfl
    have e2 : sa l a = none := by unfold sa; rw [hs]; rfl
    have e3 : sc l c = 0 := by unfold sc; rw [hs]; rfl
    rw [e1, e2, e3]
    have hb := build_nought
    have hsz := sizeT (ca := none) (cc := 0) tok_nought.len
    have hzs : Z.size = (TV none 0 nought).size := by rw [hZs, TV_size tok_nought.len]
    have ho := TV_one none 0 nought
    clear hZe
    generalize hV : TV none 0 nought = V at *
    go_enter Try.func19, Try.ntmps19
    go_wp2_with (first | (go_at_call 16; refine (rsane12_c _ (h.mr (by repeat (first | (with_reducible exact Mr.refl _) | (with_reducible apply Mr.drew) | (with_reducible apply Mr.alloc) | (with_reducible apply Mr.ext) | (with_reducible refine Mr.setCell ?_ (by first | (simp; done) | (simp; omega) | omega | (refine leOf0 ?_; (repeat (first | (with_reducible exact Mr.refl _) | (with_reducible apply Mr.drew) | (with_reducible apply Mr.alloc) | (with_reducible apply Mr.ext) | (with_reducible refine Mr.setCell ?_ (by first | (simp; done) | (simp; omega) | omega) _))); done) | (refine leOf ?_; (repeat (first | (with_reducible exact Mr.refl _) | (with_reducible apply Mr.drew) | (with_reducible apply Mr.alloc) | (with_reducible apply Mr.ext) | (with_reducible refine Mr.setCell ?_ (by first | (simp; done) | (simp; omega) | omega) _))); done)) _)))) en).mono ?_; rw [hs]; rintro e w' ⟨rfl, x, rfl⟩; have hZ := hZ0.mr x.h) | (refine wpList_store_row rfl 37 _ _ rfl w.heap.size _ rfl rfl 37 _ hZ hsz hzs ho ?_))
    exact bodyPost_ret (results_cell_row Try.results19 _ _ w.heap.size 37 _ (0, 0) _ rfl (hZ.row _) Try.underlying37 rfl hsz) rfl ⟨rfl, Mr.mk' (mr_row (by repeat (first | (with_reducible exact Mr.refl _) | (with_reducible apply Mr.drew) | (with_reducible apply Mr.alloc) | (with_reducible apply Mr.ext) | (with_reducible refine Mr.setCell ?_ (by first | (simp; done) | (simp; omega) | omega | (refine leOf0 ?_; (repeat (first | (with_reducible exact Mr.refl _) | (with_reducible apply Mr.drew) | (with_reducible apply Mr.alloc) | (with_reducible apply Mr.ext) | (with_reducible refine Mr.setCell ?_ (by first | (simp; done) | (simp; omega) | omega) _))); done) | (refine leOf ?_; (repeat (first | (with_reducible exact Mr.refl _) | (with_reducible apply Mr.drew) | (with_reducible apply Mr.alloc) | (with_reducible apply Mr.ext) | (with_reducible refine Mr.setCell ?_ (by first | (simp; done) | (simp; omega) | omega) _))); done)) _))) (by simp) _)⟩
  · subst en
    have e1 : start l = rest ⟨l, 0, zeros, false, 0⟩ := by unfold start; rw [hs]; rfl
    have e2 : sa l a = a := by unfold sa; rw [hs]; rfl
    have e3 : sc l c = c := by unfold sc; rw [hs]; rfl
    rw [e1, e2, e3]
    have hT : Tok ⟨l, 0, zeros, false, 0⟩ := tok_zeros l false 0 (by omega)
    have hb := fun w => build_start w a c l
    have hT2 := hT.rest hs
    have hsz := sizeT (ca := a) (cc := c) hT2.len
    have hzs : Z.size = (TV a c (rest ⟨l, 0, zeros, false, 0⟩)).size := by rw [hZs, TV_size hT2.len]
    have ho := TV_one a c (rest ⟨l, 0, zeros, false, 0⟩)
    have hcall : ∀ W, Mr w W → Calls Try.prog 33 #[.agg (TV a c ⟨l, 0, zeros, false, 0⟩)] W fun e w' => e = .returned (.agg (TV a c (rest ⟨l, 0, zeros, false, 0⟩))) ∧ ∃ x : Ext W, w' = x.u := fun W m => rrest12_c W ⟨h.mr m, hT⟩ hs
    clear hZe hT hT2
    generalize hV : TV a c (rest ⟨l, 0, zeros, false, 0⟩) = V at *
    generalize hV2 : TV a c ⟨l, 0, zeros, false, 0⟩ = V2 at *
    go_enter Try.func19, Try.ntmps19
    go_wp2_with (first | (go_at_call 16; refine (rsane12_c _ (h.mr (by repeat (first | (with_reducible exact Mr.refl _) | (with_reducible apply Mr.drew) | (with_reducible apply Mr.alloc) | (with_reducible apply Mr.ext) | (with_reducible refine Mr.setCell ?_ (by first | (simp; done) | (simp; omega) | omega | (refine leOf0 ?_; (repeat (first | (with_reducible exact Mr.refl _) | (with_reducible apply Mr.drew) | (with_reducible apply Mr.alloc) | (with_reducible apply Mr.ext) | (with_reducible refine Mr.setCell ?_ (by first | (simp; done) | (simp; omega) | omega) _))); done) | (refine leOf ?_; (repeat (first | (with_reducible exact Mr.refl _) | (with_reducible apply Mr.drew) | (with_reducible apply Mr.alloc) | (with_reducible apply Mr.ext) | (with_reducible refine Mr.setCell ?_ (by first | (simp; done) | (simp; omega) | omega) _))); done)) _)))) rfl).mono ?_; rw [hs]; rintro e w' ⟨rfl, x, rfl⟩) | (go_at_call 33; refine (hcall _ (by repeat (first | (with_reducible exact Mr.refl _) | (with_reducible apply Mr.drew) | (with_reducible apply Mr.alloc) | (with_reducible apply Mr.ext) | (with_reducible refine Mr.setCell ?_ (by first | (simp; done) | (simp; omega) | omega | (refine leOf0 ?_; (repeat (first | (with_reducible exact Mr.refl _) | (with_reducible apply Mr.drew) | (with_reducible apply Mr.alloc) | (with_reducible apply Mr.ext) | (with_reducible refine Mr.setCell ?_ (by first | (simp; done) | (simp; omega) | omega) _))); done) | (refine leOf ?_; (repeat (first | (with_reducible exact Mr.refl _) | (with_reducible apply Mr.drew) | (with_reducible apply Mr.alloc) | (with_reducible apply Mr.ext) | (with_reducible refine Mr.setCell ?_ (by first | (simp; done) | (simp; omega) | omega) _))); done)) _)))).mono ?_; rintro e w' ⟨rfl, y, rfl⟩; have hZ := (hZ0.mr x.h).mr y.h) | (refine wpList_store_row rfl 37 _ _ rfl w.heap.size _ rfl rfl 37 _ hZ hsz hzs ho ?_))
    exact bodyPost_ret (results_cell_row Try.results19 _ _ w.heap.size 37 _ (0, 0) _ rfl (hZ.row _) Try.underlying37 rfl hsz) rfl ⟨rfl, Mr.mk' (mr_row (by repeat (first | (with_reducible exact Mr.refl _) | (with_reducible apply Mr.drew) | (with_reducible apply Mr.alloc) | (with_reducible apply Mr.ext) | (with_reducible refine Mr.setCell ?_ (by first | (simp; done) | (simp; omega) | omega | (refine leOf0 ?_; (repeat (first | (with_reducible exact Mr.refl _) | (with_reducible apply Mr.drew) | (with_reducible apply Mr.alloc) | (with_reducible apply Mr.ext) | (with_reducible refine Mr.setCell ?_ (by first | (simp; done) | (simp; omega) | omega) _))); done) | (refine leOf ?_; (repeat (first | (with_reducible exact Mr.refl _) | (with_reducible apply Mr.drew) | (with_reducible apply Mr.alloc) | (with_reducible apply Mr.ext) | (with_reducible refine Mr.setCell ?_ (by first | (simp; done) | (simp; omega) | omega) _))); done)) _))) (by simp) _)⟩
end Tk
end Go.Proofs.Yteomkfgkhmdehaa
