/- The contracts of the document's own answers of layer 11. -/
import Derived.Test.YtnbejkhcifeeiaaCellM
namespace Go.Proofs.Ytnbejkhcifeeiaa
open Go.ChangeShapes Go.WideShapes Go.ChangeAt Go.RowKit
set_option linter.unusedVariables false
attribute [local go_sem] Ext.cell Ext.froz Ext.lt Ext.lt1 Ext.lt2 Ext.lt3 Ext.all Ext.set_u drew_heap setCell_size Ext.set_size
namespace Ce
open Wl
theorem cell_oneU (w : World) (v : Value) (B : Nat) (hB : w.heap.size = B) : ∀ j u, [v][j]? = some u → (w.alloc (.cells #[v] 24)).cell? ((⟨B, 0, none⟩ : Addr).add j) = some u := by
  subst hB
  intro j u hj
  match j, hj with
  | 0, hj => simp at hj; subst hj; simp [Addr.add]
theorem one_cellU (z : Int) : ∀ u ∈ [Value.int .u64 z], u.oneCell' = true := by
  intro u hu; simp at hu; subst hu; rfl
theorem owns_is {w : World} {B n : Nat} {v : Value} {l : List Int} (h : w.ownsRow B 24 1 v n (l.map (Value.int .u64))) (hb : Wb l) : ∃ a c, v = .slice a l.length c ∧ n = l.length ∧ Wl.Is w a c l ∧ ∀ b o, a = some ⟨b, o, none⟩ → B ≤ b := by
  obtain ⟨a, c, rfl, e, hI⟩ := Wl.of_owns h hb
  refine ⟨a, c, rfl, e, hI, fun b o eb => ?_⟩
  subst eb
  exact (h.lt b rfl).1
theorem grown_is {W W' : World} {row : Option Nat} {a : Option Addr} {c : Nat} {l : List Int} (h : Wl.Is W a c l) (hg : W.grownBy W' row) (hne : ∀ b o, a = some ⟨b, o, none⟩ → some b ≠ row) : Wl.Is W' a c l :=
  ⟨h.le, h.max, h.nil, fun j hj => by
    obtain ⟨b, o, e, hlt, hc⟩ := h.at' j hj
    refine ⟨b, o, e, Nat.lt_of_lt_of_le hlt hg.size, fun i hi => ?_⟩
    rw [← hc i hi]
    exact World.cell?_of_block (a := ⟨b, o + i, none⟩) (hg.block b hlt (hne b o e)), h.bd⟩
set_option maxRecDepth 100000 in
set_option maxHeartbeats 1000000 in
theorem rsame11_c {a b : Option Addr} {c d n m : Nat} {l k : List Int} (w : World) (h : Wl.Is w a c l) (en : l.length = n) (g : Wl.Is w b d k) (em : k.length = m) :
    Calls Try.prog 18 #[.slice a n c, .slice b m d] w fun e w' => e = .returned (.bool (decide (l = k))) ∧ ∃ x : Ext w, w' = x.u := by
  have m0 := h.max
  have k0 := h.le
  have m1 := g.max
  have k1 := g.le
  unfold maxLen at m0 m1
  have hn9 : n ≤ 9223372036854775807 := by omega
  have hm9 : m ≤ 9223372036854775807 := by omega
  clear m0 k0 m1 k1
  by_cases hnm : n = m
  · subst hnm
    go_enter Try.func18, Try.ntmps18
    go_wp2
    go_loopw [5] (fun i wr => ∃ j : Nat, j ≤ n ∧ i = .int .i64 j ∧ (∃ y : Ext w, wr = y.u) ∧ Hid (∀ q, q < j → gt l q = gt k q)) (fun i _ => n - (intOf i).toNat)
    case atStart => exact ⟨0, by omega, rfl, Mr.mk' (Mr.refl _), fun q hq => by omega⟩
    case round =>
      obtain ⟨j, hj, rfl, ⟨y, rfl⟩, HB⟩ := hrel
      by_cases hlt : j < n
      · obtain ⟨b1, o1, rfl, hb1, hc1⟩ := h.num j (by omega)
        obtain ⟨b2, o2, rfl, hb2, hc2⟩ := g.num j (by omega)
        have hlt' : (j : Int) < n := by omega
        by_cases he : gt l j = gt k j
        · have he' : Hid (gt l j = gt k j) := he
          rw [he] at hc1
          have HN : Hid (∀ q, q < j + 1 → gt l q = gt k q) := fun q hq => by rcases Nat.lt_or_ge q j with g | g; exact HB.out q g; obtain rfl : q = j := (by omega); exact he'.out
          clear h g he he' HB
          generalize gt k j = v at *
          go_wp2
          refine wp_region_ext (by kernel_rfl) (by kernel_rfl) ?_; (repeat (go_big_quiet_step (fail))); refine wpQuiet_nil ?_; rintro w1 ⟨x9, rfl⟩; go_wp2
          go_roundw
          case rel => exact ⟨j + 1, by omega, by first | rfl | simp, Mr.mk' (by repeat (first | (with_reducible exact Mr.refl _) | (with_reducible apply Mr.drew) | (with_reducible apply Mr.alloc) | (with_reducible apply Mr.ext) | (with_reducible refine Mr.setCell ?_ (by first | (simp; done) | (simp; omega) | omega | (refine leOf0 ?_; (repeat (first | (with_reducible exact Mr.refl _) | (with_reducible apply Mr.drew) | (with_reducible apply Mr.alloc) | (with_reducible apply Mr.ext) | (with_reducible refine Mr.setCell ?_ (by first | (simp; done) | (simp; omega) | omega) _))); done) | (refine leOf ?_; (repeat (first | (with_reducible exact Mr.refl _) | (with_reducible apply Mr.drew) | (with_reducible apply Mr.alloc) | (with_reducible apply Mr.ext) | (with_reducible refine Mr.setCell ?_ (by first | (simp; done) | (simp; omega) | omega) _))); done)) _))), HN⟩
          case measure => simp [intOf]; omega
        · have hf : Hid (decide (l = k) = false) := decide_eq_false (fun e => he (by rw [e]))
          clear h g
          generalize gt k j = v at *
          generalize gt l j = u at *
          have he' : (u == v) = false := by simpa using he
          clear he
          go_wp2
          refine wp_region_ext (by kernel_rfl) (by kernel_rfl) ?_; (repeat (go_big_quiet_step (fail))); refine wpQuiet_nil ?_; rintro w1 ⟨x9, rfl⟩; go_wp2
          go_ret
          exact ⟨by rw [hf.out]; rfl, Mr.mk' (by repeat (first | (with_reducible exact Mr.refl _) | (with_reducible apply Mr.drew) | (with_reducible apply Mr.alloc) | (with_reducible apply Mr.ext) | (with_reducible refine Mr.setCell ?_ (by first | (simp; done) | (simp; omega) | omega | (refine leOf0 ?_; (repeat (first | (with_reducible exact Mr.refl _) | (with_reducible apply Mr.drew) | (with_reducible apply Mr.alloc) | (with_reducible apply Mr.ext) | (with_reducible refine Mr.setCell ?_ (by first | (simp; done) | (simp; omega) | omega) _))); done) | (refine leOf ?_; (repeat (first | (with_reducible exact Mr.refl _) | (with_reducible apply Mr.drew) | (with_reducible apply Mr.alloc) | (with_reducible apply Mr.ext) | (with_reducible refine Mr.setCell ?_ (by first | (simp; done) | (simp; omega) | omega) _))); done)) _)))⟩
      · obtain rfl : j = n := by omega
        have hf : Hid (decide (l = k) = true) := decide_eq_true (list_eq (by omega) (fun q hq => HB.out q (by omega)))
        clear h g
        go_wp2
        go_ret
        exact ⟨by rw [hf.out]; rfl, Mr.mk' (by repeat (first | (with_reducible exact Mr.refl _) | (with_reducible apply Mr.drew) | (with_reducible apply Mr.alloc) | (with_reducible apply Mr.ext) | (with_reducible refine Mr.setCell ?_ (by first | (simp; done) | (simp; omega) | omega | (refine leOf0 ?_; (repeat (first | (with_reducible exact Mr.refl _) | (with_reducible apply Mr.drew) | (with_reducible apply Mr.alloc) | (with_reducible apply Mr.ext) | (with_reducible refine Mr.setCell ?_ (by first | (simp; done) | (simp; omega) | omega) _))); done) | (refine leOf ?_; (repeat (first | (with_reducible exact Mr.refl _) | (with_reducible apply Mr.drew) | (with_reducible apply Mr.alloc) | (with_reducible apply Mr.ext) | (with_reducible refine Mr.setCell ?_ (by first | (simp; done) | (simp; omega) | omega) _))); done)) _)))⟩
  · have hf : Hid (decide (l = k) = false) := decide_eq_false (fun e => hnm (by rw [← en, ← em, e]))
    have hne : ¬ (n : Int) = m := by omega
    go_enter Try.func18, Try.ntmps18
    go_wp2
    go_ret
    exact ⟨by rw [hf.out]; rfl, Mr.mk' (by repeat (first | (with_reducible exact Mr.refl _) | (with_reducible apply Mr.drew) | (with_reducible apply Mr.alloc) | (with_reducible apply Mr.ext) | (with_reducible refine Mr.setCell ?_ (by first | (simp; done) | (simp; omega) | omega | (refine leOf0 ?_; (repeat (first | (with_reducible exact Mr.refl _) | (with_reducible apply Mr.drew) | (with_reducible apply Mr.alloc) | (with_reducible apply Mr.ext) | (with_reducible refine Mr.setCell ?_ (by first | (simp; done) | (simp; omega) | omega) _))); done) | (refine leOf ?_; (repeat (first | (with_reducible exact Mr.refl _) | (with_reducible apply Mr.drew) | (with_reducible apply Mr.alloc) | (with_reducible apply Mr.ext) | (with_reducible refine Mr.setCell ?_ (by first | (simp; done) | (simp; omega) | omega) _))); done)) _)))⟩

theorem doM_out {m : List Int} {x : Acc} (h : ¬ (0 ≤ x.i ∧ x.i < ((cut m).length : Nat))) : doM m x = cut m ∧ doW m x = 0 := by
  have : inb m x = false := by
    unfold inb
    rw [Bool.eq_false_iff]; intro g; simp only [Bool.and_eq_true, decide_eq_true_eq] at g; exact h g
  unfold doM doW
  rw [this]
  exact ⟨rfl, rfl⟩
theorem inb_of {m : List Int} {k p q : Int} {j : Nat} (h : j < (cut m).length) : inb m ⟨k, j, p, q⟩ = true := by
  unfold inb
  simp only [Bool.and_eq_true, decide_eq_true_eq]
  omega
theorem cell_cut {m : List Int} {j : Nat} (h : j < (cut m).length) : ((cut m).map (Value.int .u64))[j]? = some (.int .u64 (gt m j)) := by
  have h2 := cut_len m
  rw [List.getElem?_map, List.getElem?_eq_getElem h]
  have := gt_cut m j
  rw [if_pos (by omega)] at this
  rw [← this]
  unfold gt
  rw [List.getD_eq_getElem?_getD, List.getElem?_eq_getElem h]
  rfl
theorem set_is {w : World} {B g cap N j : Nat} {l : List Int} (hset : ∀ X, (w.setCell ⟨g, j, none⟩ X).ownsRow B 24 1 (.slice (some ⟨g, 0, none⟩) N cap) N ((l.map (Value.int .u64)).set j X)) (hb : Wb l) {v : Int} (hv : 0 ≤ v ∧ v ≤ 18446744073709551615) : Wl.Is (w.setCell ⟨g, j, none⟩ (.int .u64 v)) (some ⟨g, 0, none⟩) cap (l.set j v) := by
  have h := hset (.int .u64 v)
  rw [← List.map_set] at h
  obtain ⟨a, c, e, -, hI, -⟩ := owns_is h (hb.set j hv)
  simp only [Value.slice.injEq] at e
  obtain ⟨rfl, -, rfl⟩ := e
  exact hI
end Ce
end Go.Proofs.Ytnbejkhcifeeiaa
