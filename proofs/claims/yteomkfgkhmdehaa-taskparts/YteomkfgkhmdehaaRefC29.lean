/- The contracts of the document's own answers of layer 11. -/
import Derived.Test.YteomkfgkhmdehaaCellM
namespace Go.Proofs.Yteomkfgkhmdehaa
open Go.ChangeShapes Go.WideShapes Go.ChangeAt Go.RowKit
set_option linter.unusedVariables false
attribute [local go_sem] Ext.cell Ext.froz Ext.lt Ext.lt1 Ext.lt2 Ext.lt3 Ext.all Ext.set_u drew_heap setCell_size Ext.set_size
namespace Ce
open Wl
theorem cell_oneU (w : World) (v : Value) (B : Nat) (hB : w.heap.size = B) : ∀ j u, [v][j]? = some u → (w.alloc (.cells #[v] 34)).cell? ((⟨B, 0, none⟩ : Addr).add j) = some u := by
  subst hB
  intro j u hj
  match j, hj with
  | 0, hj => simp at hj; subst hj; simp [Addr.add]
theorem one_cellU (z : Int) : ∀ u ∈ [Value.int .u64 z], u.oneCell' = true := by
  intro u hu; simp at hu; subst hu; rfl
set_option maxRecDepth 100000 in
set_option maxHeartbeats 2000000 in
theorem ras11_c {a : Option Addr} {c n : Nat} {l : List Int} (w : World) (h : Wl.Is w a c l) (en : l.length = n) :
    Calls Try.prog 29 #[.slice a n c] w fun e w' => ∃ v, e = .returned v ∧ ∃ x : Ext w, w' = x.u ∧ x.u.ownsRow w.heap.size 34 1 v (cut l).length ((cut l).map (Value.int .u64)) := by
  obtain ⟨i0, hi, hz0, hz1, hz2⟩ := info_parts infoU
  have hlen := h.le
  have hmax : l.length ≤ maxLen := Nat.le_trans h.le h.max
  unfold maxLen at hmax
  go_enter Try.func29, Try.ntmps29
  go_wp2
  go_loopw [3, 4] (fun v i wr => ∃ k : Nat, k ≤ n ∧ k ≤ 256 ∧ i = .int .i64 k ∧ wr.ownsRow w.heap.size 34 1 v k ((l.take k).map (Value.int .u64)) ∧ ∃ y : Ext w, wr = y.u) (fun _ i _ => (256 - intOf i).toNat)
  case atStart => exact ⟨0, by omega, by omega, rfl, World.ownsRow_nil _ _ _ _, Mr.mk' (by repeat (first | (with_reducible exact Mr.refl _) | (with_reducible apply Mr.drew) | (with_reducible apply Mr.alloc) | (with_reducible apply Mr.ext) | (with_reducible refine Mr.setCell ?_ (by first | (simp; done) | (simp; omega) | omega | (refine leOf0 ?_; (repeat (first | (with_reducible exact Mr.refl _) | (with_reducible apply Mr.drew) | (with_reducible apply Mr.alloc) | (with_reducible apply Mr.ext) | (with_reducible refine Mr.setCell ?_ (by first | (simp; done) | (simp; omega) | omega) _))); done) | (refine leOf ?_; (repeat (first | (with_reducible exact Mr.refl _) | (with_reducible apply Mr.drew) | (with_reducible apply Mr.alloc) | (with_reducible apply Mr.ext) | (with_reducible refine Mr.setCell ?_ (by first | (simp; done) | (simp; omega) | omega) _))); done)) _)))⟩
  case round =>
    obtain ⟨k, hk, hk2, rfl, hown, y, rfl⟩ := hrel
    by_cases hlt : k < n ∧ k < 256
    · obtain ⟨hl1, hl2⟩ := hlt
      have hl1' : (k : Int) < n := by omega
      have hl2' : (k : Int) < 256 := by omega
      obtain ⟨b, o, rfl, hb, hck⟩ := (h.ext y).num k (by omega)
      have hT : Hid ((l.take (k + 1)).map (Value.int .u64) = (l.take k).map (Value.int .u64) ++ [Value.int .u64 (gt l k)]) := by rw [Hid, take_more l k (by omega), List.map_append]; rfl
      generalize gt l k = nv at *
      have hmr : ∀ (w1 : World), (y.u.alloc (.cells #[.int .u64 nv] 34)).grownBy w1 u3.ownBlock → ∃ z : Ext w, w1 = z.u := fun w1 hg => Mr.mk' ((y.h.alloc _).grownBy hg (fun j e => (hown.lt j e).1))
      clear h
      go_wp2_with (first | (at_builtin; refine wpList_append_own _ rfl _ _ 23 rfl w.heap.size 34 i0 (.int .u64 0) 1 8 Try.underlying23 hi hz0 hz1 hz2 rfl (by decide) _ _ _ rfl (hown.alloc _) ⟨y.u.heap.size, 0, none⟩ 1 1 [.int .u64 nv] rfl rfl (cell_oneU _ _ _ rfl) (one_cellU _) (by unfold maxLen; omega) (by omega) (by have := y.h.below.size; simp; omega) ?_; intro v' w1 hown' hgrow _; obtain ⟨z, rfl⟩ := hmr w1 hgrow; clear hgrow))
      go_roundw
      case rel => exact ⟨k + 1, by omega, by omega, by go_num, by rw [hT.out]; exact hown', z, rfl⟩
      case measure => simp [intOf]; omega
    · have hv : Hid (cut l = l.take k ∧ (cut l).length = k) := by
        have e : cut l = l.take k := by
          unfold cut
          by_cases g : k = 256
          · subst g; rfl
          · rw [List.take_of_length_le (i := 256) (by omega), List.take_of_length_le (i := k) (by omega)]
        exact ⟨e, by rw [e, List.length_take]; omega⟩
      clear h
      by_cases hlt2 : k < n
      · have h64 : ¬ (k : Int) < 256 := by omega
        have hl1' : (k : Int) < n := by omega
        go_wp2
        go_ret
        exact ⟨_, rfl, y, rfl, by rw [hv.out.2, hv.out.1]; exact hown⟩
      · have h64 : ¬ (k : Int) < n := by omega
        go_wp2
        go_ret
        exact ⟨_, rfl, y, rfl, by rw [hv.out.2, hv.out.1]; exact hown⟩
theorem owns_is {w : World} {B n : Nat} {v : Value} {l : List Int} (h : w.ownsRow B 34 1 v n (l.map (Value.int .u64))) (hb : Wb l) : ∃ a c, v = .slice a l.length c ∧ n = l.length ∧ Wl.Is w a c l ∧ ∀ b o, a = some ⟨b, o, none⟩ → B ≤ b := by
  obtain ⟨a, c, rfl, e, hI⟩ := Wl.of_owns h hb
  refine ⟨a, c, rfl, e, hI, fun b o eb => ?_⟩
  subst eb
  exact (h.lt b rfl).1
theorem grown_is {W W' : World} {row : Option Nat} {a : Option Addr} {c : Nat} {l : List Int} (h : Wl.Is W a c l) (hg : W.grownBy W' row) (hne : ∀ b o, a = some ⟨b, o, none⟩ → some b ≠ row) : Wl.Is W' a c l :=
  ⟨h.le, h.max, h.nil, fun j hj => by
    obtain ⟨b, o, e, hlt, hc⟩ := h.at' j hj
    refine ⟨b, o, e, Nat.lt_of_lt_of_le hlt hg.size, fun i hi => ?_⟩
    rw [← hc i hi]
    exact World.cell?_of_block (a := ⟨b, o + i, none⟩) (hg.block b hlt (hne b o e)), h.bd⟩
set_option maxRecDepth 100000 in
set_option maxHeartbeats 1000000 in
theorem rsame11_c {a b : Option Addr} {c d n m : Nat} {l k : List Int} (w : World) (h : Wl.Is w a c l) (en : l.length = n) (g : Wl.Is w b d k) (em : k.length = m) :
    Calls Try.prog 14 #[.slice a n c, .slice b m d] w fun e w' => e = .returned (.bool (decide (l = k))) ∧ ∃ x : Ext w, w' = x.u := by
  have m0 := h.max
  have k0 := h.le
  have m1 := g.max
  have k1 := g.le
  unfold maxLen at m0 m1
  have hn9 : n ≤ 9223372036854775807 := by omega
  have hm9 : m ≤ 9223372036854775807 := by omega
  clear m0 k0 m1 k1
  by_cases hnm : n = m
  · subst hnm
    go_enter Try.func14, Try.ntmps14
    go_wp2
    go_loopw [5] (fun i wr => ∃ j : Nat, j ≤ n ∧ i = .int .i64 j ∧ (∃ y : Ext w, wr = y.u) ∧ Hid (∀ q, q < j → gt l q = gt k q)) (fun i _ => n - (intOf i).toNat)
    case atStart => exact ⟨0, by omega, rfl, Mr.mk' (Mr.refl _), fun q hq => by omega⟩
    case round =>
      obtain ⟨j, hj, rfl, ⟨y, rfl⟩, HB⟩ := hrel
      by_cases hlt : j < n
      · obtain ⟨b1, o1, rfl, hb1, hc1⟩ := h.num j (by omega)
        obtain ⟨b2, o2, rfl, hb2, hc2⟩ := g.num j (by omega)
        have hlt' : (j : Int) < n := by omega
        by_cases he : gt l j = gt k j
        · have he' : Hid (gt l j = gt k j) := he
          rw [he] at hc1
          have HN : Hid (∀ q, q < j + 1 → gt l q = gt k q) := fun q hq => by rcases Nat.lt_or_ge q j with g | g; exact HB.out q g; obtain rfl : q = j := (by omega); exact he'.out
          clear h g he he' HB
          generalize gt k j = v at *
          go_wp2
          refine wp_region_ext (by kernel_rfl) (by kernel_rfl) ?_; (repeat (go_big_quiet_step (fail))); refine wpQuiet_nil ?_; rintro w1 ⟨x9, rfl⟩; go_wp2
          go_roundw
          case rel => exact ⟨j + 1, by omega, by first | rfl | simp, Mr.mk' (by repeat (first | (with_reducible exact Mr.refl _) | (with_reducible apply Mr.drew) | (with_reducible apply Mr.alloc) | (with_reducible apply Mr.ext) | (with_reducible refine Mr.setCell ?_ (by first | (simp; done) | (simp; omega) | omega | (refine leOf0 ?_; (repeat (first | (with_reducible exact Mr.refl _) | (with_reducible apply Mr.drew) | (with_reducible apply Mr.alloc) | (with_reducible apply Mr.ext) | (with_reducible refine Mr.setCell ?_ (by first | (simp; done) | (simp; omega) | omega) _))); done) | (refine leOf ?_; (repeat (first | (with_reducible exact Mr.refl _) | (with_reducible apply Mr.drew) | (with_reducible apply Mr.alloc) | (with_reducible apply Mr.ext) | (with_reducible refine Mr.setCell ?_ (by first | (simp; done) | (simp; omega) | omega) _))); done)) _))), HN⟩
          case measure => simp [intOf]; omega
        · have hf : Hid (decide (l = k) = false) := decide_eq_false (fun e => he (by rw [e]))
          clear h g
          generalize gt k j = v at *
          generalize gt l j = u at *
          have he' : (u == v) = false := by simpa using he
          clear he
          go_wp2
          refine wp_region_ext (by kernel_rfl) (by kernel_rfl) ?_; (repeat (go_big_quiet_step (fail))); refine wpQuiet_nil ?_; rintro w1 ⟨x9, rfl⟩; go_wp2
          go_ret
          exact ⟨by rw [hf.out]; rfl, Mr.mk' (by repeat (first | (with_reducible exact Mr.refl _) | (with_reducible apply Mr.drew) | (with_reducible apply Mr.alloc) | (with_reducible apply Mr.ext) | (with_reducible refine Mr.setCell ?_ (by first | (simp; done) | (simp; omega) | omega | (refine leOf0 ?_; (repeat (first | (with_reducible exact Mr.refl _) | (with_reducible apply Mr.drew) | (with_reducible apply Mr.alloc) | (with_reducible apply Mr.ext) | (with_reducible refine Mr.setCell ?_ (by first | (simp; done) | (simp; omega) | omega) _))); done) | (refine leOf ?_; (repeat (first | (with_reducible exact Mr.refl _) | (with_reducible apply Mr.drew) | (with_reducible apply Mr.alloc) | (with_reducible apply Mr.ext) | (with_reducible refine Mr.setCell ?_ (by first | (simp; done) | (simp; omega) | omega) _))); done)) _)))⟩
      · obtain rfl : j = n := by omega
        have hf : Hid (decide (l = k) = true) := decide_eq_true (list_eq (by omega) (fun q hq => HB.out q (by omega)))
        clear h g
        go_wp2
        go_ret
        exact ⟨by rw [hf.out]; rfl, Mr.mk' (by repeat (first | (with_reducible exact Mr.refl _) | (with_reducible apply Mr.drew) | (with_reducible apply Mr.alloc) | (with_reducible apply Mr.ext) | (with_reducible refine Mr.setCell ?_ (by first | (simp; done) | (simp; omega) | omega | (refine leOf0 ?_; (repeat (first | (with_reducible exact Mr.refl _) | (with_reducible apply Mr.drew) | (with_reducible apply Mr.alloc) | (with_reducible apply Mr.ext) | (with_reducible refine Mr.setCell ?_ (by first | (simp; done) | (simp; omega) | omega) _))); done) | (refine leOf ?_; (repeat (first | (with_reducible exact Mr.refl _) | (with_reducible apply Mr.drew) | (with_reducible apply Mr.alloc) | (with_reducible apply Mr.ext) | (with_reducible refine Mr.setCell ?_ (by first | (simp; done) | (simp; omega) | omega) _))); done)) _)))⟩
  · have hf : Hid (decide (l = k) = false) := decide_eq_false (fun e => hnm (by rw [← en, ← em, e]))
    have hne : ¬ (n : Int) = m := by omega
    go_enter Try.func14, Try.ntmps14
    go_wp2
    go_ret
    exact ⟨by rw [hf.out]; rfl, Mr.mk' (by repeat (first | (with_reducible exact Mr.refl _) | (with_reducible apply Mr.drew) | (with_reducible apply Mr.alloc) | (with_reducible apply Mr.ext) | (with_reducible refine Mr.setCell ?_ (by first | (simp; done) | (simp; omega) | omega | (refine leOf0 ?_; (repeat (first | (with_reducible exact Mr.refl _) | (with_reducible apply Mr.drew) | (with_reducible apply Mr.alloc) | (with_reducible apply Mr.ext) | (with_reducible refine Mr.setCell ?_ (by first | (simp; done) | (simp; omega) | omega) _))); done) | (refine leOf ?_; (repeat (first | (with_reducible exact Mr.refl _) | (with_reducible apply Mr.drew) | (with_reducible apply Mr.alloc) | (with_reducible apply Mr.ext) | (with_reducible refine Mr.setCell ?_ (by first | (simp; done) | (simp; omega) | omega) _))); done)) _)))⟩

theorem doM_out {m : List Int} {x : Acc} (h : ¬ (0 ≤ x.i ∧ x.i < ((cut m).length : Nat))) : doM m x = cut m ∧ doW m x = 0 := by
  have : inb m x = false := by
    unfold inb
    rw [Bool.eq_false_iff]; intro g; simp only [Bool.and_eq_true, decide_eq_true_eq] at g; exact h g
  unfold doM doW
  rw [this]
  exact ⟨rfl, rfl⟩
theorem inb_of {m : List Int} {k p q : Int} {j : Nat} (h : j < (cut m).length) : inb m ⟨k, j, p, q⟩ = true := by
  unfold inb
  simp only [Bool.and_eq_true, decide_eq_true_eq]
  omega
theorem cell_cut {m : List Int} {j : Nat} (h : j < (cut m).length) : ((cut m).map (Value.int .u64))[j]? = some (.int .u64 (gt m j)) := by
  have h2 := cut_len m
  rw [List.getElem?_map, List.getElem?_eq_getElem h]
  have := gt_cut m j
  rw [if_pos (by omega)] at this
  rw [← this]
  unfold gt
  rw [List.getD_eq_getElem?_getD, List.getElem?_eq_getElem h]
  rfl
theorem set_is {w : World} {B g cap N j : Nat} {l : List Int} (hset : ∀ X, (w.setCell ⟨g, j, none⟩ X).ownsRow B 34 1 (.slice (some ⟨g, 0, none⟩) N cap) N ((l.map (Value.int .u64)).set j X)) (hb : Wb l) {v : Int} (hv : 0 ≤ v ∧ v ≤ 18446744073709551615) : Wl.Is (w.setCell ⟨g, j, none⟩ (.int .u64 v)) (some ⟨g, 0, none⟩) cap (l.set j v) := by
  have h := hset (.int .u64 v)
  rw [← List.map_set] at h
  obtain ⟨a, c, e, -, hI, -⟩ := owns_is h (hb.set j hv)
  simp only [Value.slice.injEq] at e
  obtain ⟨rfl, -, rfl⟩ := e
  exact hI
set_option maxRecDepth 100000 in
set_option maxHeartbeats 4000000 in
theorem rdo11_c {a : Option Addr} {c n : Nat} {l : List Int} {k i p q : Int} (w : World) (h : Wl.Is w a c l) (en : l.length = n) (hx : Acc.ok ⟨k, i, p, q⟩) :
    Calls Try.prog 37 #[.slice a n c, .agg #[.int .i64 k, .int .i64 i, .int .u64 p, .int .u64 q]] w fun e w' => ∃ a' c', e = .returned (.tuple #[.slice a' (cut l).length c', .int .u64 (doW l ⟨k, i, p, q⟩)]) ∧ (∀ b o, a' = some ⟨b, o, none⟩ → w.heap.size ≤ b) ∧ ∃ y : Ext w, w' = y.u ∧ Wl.Is y.u a' c' (doM l ⟨k, i, p, q⟩) := by
  have hb : Wb l := h.bd
  obtain ⟨-, -, hp6, hq6⟩ := hx
  simp only at hp6 hq6
  obtain ⟨N, eN⟩ : ∃ N, (cut l).length = N := ⟨_, rfl⟩
  have hN : N ≤ 256 := by have := cut_len l; omega
  by_cases hin : 0 ≤ i ∧ i < N
  · obtain ⟨j, rfl⟩ := Int.eq_ofNat_of_zero_le hin.1
    have hj : j < (cut l).length := by omega
    have hi1 : (j : Int) < N := hin.2
    have hi0 : ¬ (j : Int) < 0 := by omega
    obtain ⟨G, eG⟩ : ∃ G, gt l j = G := ⟨_, rfl⟩
    have hin' := inb_of (m := l) (k := k) (p := p) (q := q) hj
    have eM : Hid (doM l ⟨k, j, p, q⟩ = if k = 1 then (cut l).set j p else if k = 2 then (if G = p then (cut l).set j q else cut l) else if k = 3 then (cut l).set j (IntKind.u64.wrap (G + p)) else cut l) := by
      unfold doM; rw [hin', if_pos rfl, Int.toNat_natCast, eG]; rfl
    have eW : Hid (doW l ⟨k, j, p, q⟩ = if k = 0 then G else if k = 2 then (if G = p then 1 else 0) else if k = 3 then IntKind.u64.wrap (G + p) else 0) := by
      unfold doW; rw [hin', if_pos rfl, Int.toNat_natCast, eG]; rfl
    rw [eM.out, eW.out, eN]
    clear hin hin' eM eW
    by_cases k0 : k = 0
    · subst k0
      go_enter Try.func37, Try.ntmps37
      go_wp2_with (first | (go_at_call 29; refine (ras11_c _ (h.mr (by repeat (first | (with_reducible exact Mr.refl _) | (with_reducible apply Mr.drew) | (with_reducible apply Mr.alloc) | (with_reducible apply Mr.ext) | (with_reducible refine Mr.setCell ?_ (by first | (simp; done) | (simp; omega) | omega | (refine leOf0 ?_; (repeat (first | (with_reducible exact Mr.refl _) | (with_reducible apply Mr.drew) | (with_reducible apply Mr.alloc) | (with_reducible apply Mr.ext) | (with_reducible refine Mr.setCell ?_ (by first | (simp; done) | (simp; omega) | omega) _))); done) | (refine leOf ?_; (repeat (first | (with_reducible exact Mr.refl _) | (with_reducible apply Mr.drew) | (with_reducible apply Mr.alloc) | (with_reducible apply Mr.ext) | (with_reducible refine Mr.setCell ?_ (by first | (simp; done) | (simp; omega) | omega) _))); done)) _)))) en).mono ?_; rintro e w1 ⟨v, rfl, x, rfl, hown⟩; obtain ⟨a', c', ev, -, hIs, -⟩ := owns_is hown (Wb.cut hb); obtain ⟨g, cap, rfl, hg, hgs, hfz, hcl, hset⟩ := owns_set hown hj; rw [cell_cut hj, eG] at hcl; simp only [Value.slice.injEq] at ev; obtain ⟨rfl, -, rfl⟩ := ev; have hg' : w.heap.size ≤ g := (by simp at hg; omega); have hgn : ¬ w.heap.size = g := (by simp at hg; omega); have hgm : ¬ g = w.heap.size := (by simp at hg; omega); clear hg hown; rw [eN] at hset; have hset : Hid _ := hset; have hIs : Hid _ := hIs))
      go_ret2
      exact ⟨_, _, rfl, (fun b o e => by simp only [Option.some.injEq, Addr.mk.injEq] at e; omega), ⟨_, (by repeat (first | (with_reducible exact Mr.refl _) | (with_reducible apply Mr.drew) | (with_reducible apply Mr.alloc) | (with_reducible apply Mr.ext) | (with_reducible refine Mr.setCell ?_ (by first | (simp; done) | (simp; omega) | omega | (refine leOf0 ?_; (repeat (first | (with_reducible exact Mr.refl _) | (with_reducible apply Mr.drew) | (with_reducible apply Mr.alloc) | (with_reducible apply Mr.ext) | (with_reducible refine Mr.setCell ?_ (by first | (simp; done) | (simp; omega) | omega) _))); done) | (refine leOf ?_; (repeat (first | (with_reducible exact Mr.refl _) | (with_reducible apply Mr.drew) | (with_reducible apply Mr.alloc) | (with_reducible apply Mr.ext) | (with_reducible refine Mr.setCell ?_ (by first | (simp; done) | (simp; omega) | omega) _))); done)) _)))⟩, rfl, hIs.out⟩
    · by_cases k1 : k = 1
      · subst k1
        go_enter Try.func37, Try.ntmps37
        go_wp2_with (first | (go_at_call 29; refine (ras11_c _ (h.mr (by repeat (first | (with_reducible exact Mr.refl _) | (with_reducible apply Mr.drew) | (with_reducible apply Mr.alloc) | (with_reducible apply Mr.ext) | (with_reducible refine Mr.setCell ?_ (by first | (simp; done) | (simp; omega) | omega | (refine leOf0 ?_; (repeat (first | (with_reducible exact Mr.refl _) | (with_reducible apply Mr.drew) | (with_reducible apply Mr.alloc) | (with_reducible apply Mr.ext) | (with_reducible refine Mr.setCell ?_ (by first | (simp; done) | (simp; omega) | omega) _))); done) | (refine leOf ?_; (repeat (first | (with_reducible exact Mr.refl _) | (with_reducible apply Mr.drew) | (with_reducible apply Mr.alloc) | (with_reducible apply Mr.ext) | (with_reducible refine Mr.setCell ?_ (by first | (simp; done) | (simp; omega) | omega) _))); done)) _)))) en).mono ?_; rintro e w1 ⟨v, rfl, x, rfl, hown⟩; obtain ⟨a', c', ev, -, hIs, -⟩ := owns_is hown (Wb.cut hb); obtain ⟨g, cap, rfl, hg, hgs, hfz, hcl, hset⟩ := owns_set hown hj; rw [cell_cut hj, eG] at hcl; simp only [Value.slice.injEq] at ev; obtain ⟨rfl, -, rfl⟩ := ev; have hg' : w.heap.size ≤ g := (by simp at hg; omega); have hgn : ¬ w.heap.size = g := (by simp at hg; omega); have hgm : ¬ g = w.heap.size := (by simp at hg; omega); clear hg hown; rw [eN] at hset; have hset : Hid _ := hset; have hIs : Hid _ := hIs))
        go_ret2
        exact ⟨_, _, rfl, (fun b o e => by simp only [Option.some.injEq, Addr.mk.injEq] at e; omega), ⟨_, (by repeat (first | (with_reducible exact Mr.refl _) | (with_reducible apply Mr.drew) | (with_reducible apply Mr.alloc) | (with_reducible apply Mr.ext) | (with_reducible refine Mr.setCell ?_ (by first | (simp; done) | (simp; omega) | omega | (refine leOf0 ?_; (repeat (first | (with_reducible exact Mr.refl _) | (with_reducible apply Mr.drew) | (with_reducible apply Mr.alloc) | (with_reducible apply Mr.ext) | (with_reducible refine Mr.setCell ?_ (by first | (simp; done) | (simp; omega) | omega) _))); done) | (refine leOf ?_; (repeat (first | (with_reducible exact Mr.refl _) | (with_reducible apply Mr.drew) | (with_reducible apply Mr.alloc) | (with_reducible apply Mr.ext) | (with_reducible refine Mr.setCell ?_ (by first | (simp; done) | (simp; omega) | omega) _))); done)) _)))⟩, rfl, set_is hset.out hb.cut hp6⟩
      · by_cases k2 : k = 2
        · subst k2
          by_cases hG : G = p
          · subst hG
            go_enter Try.func37, Try.ntmps37
            go_wp2_with (first | (go_at_call 29; refine (ras11_c _ (h.mr (by repeat (first | (with_reducible exact Mr.refl _) | (with_reducible apply Mr.drew) | (with_reducible apply Mr.alloc) | (with_reducible apply Mr.ext) | (with_reducible refine Mr.setCell ?_ (by first | (simp; done) | (simp; omega) | omega | (refine leOf0 ?_; (repeat (first | (with_reducible exact Mr.refl _) | (with_reducible apply Mr.drew) | (with_reducible apply Mr.alloc) | (with_reducible apply Mr.ext) | (with_reducible refine Mr.setCell ?_ (by first | (simp; done) | (simp; omega) | omega) _))); done) | (refine leOf ?_; (repeat (first | (with_reducible exact Mr.refl _) | (with_reducible apply Mr.drew) | (with_reducible apply Mr.alloc) | (with_reducible apply Mr.ext) | (with_reducible refine Mr.setCell ?_ (by first | (simp; done) | (simp; omega) | omega) _))); done)) _)))) en).mono ?_; rintro e w1 ⟨v, rfl, x, rfl, hown⟩; obtain ⟨a', c', ev, -, hIs, -⟩ := owns_is hown (Wb.cut hb); obtain ⟨g, cap, rfl, hg, hgs, hfz, hcl, hset⟩ := owns_set hown hj; rw [cell_cut hj, eG] at hcl; simp only [Value.slice.injEq] at ev; obtain ⟨rfl, -, rfl⟩ := ev; have hg' : w.heap.size ≤ g := (by simp at hg; omega); have hgn : ¬ w.heap.size = g := (by simp at hg; omega); have hgm : ¬ g = w.heap.size := (by simp at hg; omega); clear hg hown; rw [eN] at hset; have hset : Hid _ := hset; have hIs : Hid _ := hIs))
            go_ret2
            exact ⟨_, _, rfl, (fun b o e => by simp only [Option.some.injEq, Addr.mk.injEq] at e; omega), ⟨_, (by repeat (first | (with_reducible exact Mr.refl _) | (with_reducible apply Mr.drew) | (with_reducible apply Mr.alloc) | (with_reducible apply Mr.ext) | (with_reducible refine Mr.setCell ?_ (by first | (simp; done) | (simp; omega) | omega | (refine leOf0 ?_; (repeat (first | (with_reducible exact Mr.refl _) | (with_reducible apply Mr.drew) | (with_reducible apply Mr.alloc) | (with_reducible apply Mr.ext) | (with_reducible refine Mr.setCell ?_ (by first | (simp; done) | (simp; omega) | omega) _))); done) | (refine leOf ?_; (repeat (first | (with_reducible exact Mr.refl _) | (with_reducible apply Mr.drew) | (with_reducible apply Mr.alloc) | (with_reducible apply Mr.ext) | (with_reducible refine Mr.setCell ?_ (by first | (simp; done) | (simp; omega) | omega) _))); done)) _)))⟩, rfl, set_is hset.out hb.cut hq6⟩
          · have hG' : (G == p) = false := by simpa using hG
            rw [if_neg hG, if_neg hG]
            go_enter Try.func37, Try.ntmps37
            go_wp2_with (first | (go_at_call 29; refine (ras11_c _ (h.mr (by repeat (first | (with_reducible exact Mr.refl _) | (with_reducible apply Mr.drew) | (with_reducible apply Mr.alloc) | (with_reducible apply Mr.ext) | (with_reducible refine Mr.setCell ?_ (by first | (simp; done) | (simp; omega) | omega | (refine leOf0 ?_; (repeat (first | (with_reducible exact Mr.refl _) | (with_reducible apply Mr.drew) | (with_reducible apply Mr.alloc) | (with_reducible apply Mr.ext) | (with_reducible refine Mr.setCell ?_ (by first | (simp; done) | (simp; omega) | omega) _))); done) | (refine leOf ?_; (repeat (first | (with_reducible exact Mr.refl _) | (with_reducible apply Mr.drew) | (with_reducible apply Mr.alloc) | (with_reducible apply Mr.ext) | (with_reducible refine Mr.setCell ?_ (by first | (simp; done) | (simp; omega) | omega) _))); done)) _)))) en).mono ?_; rintro e w1 ⟨v, rfl, x, rfl, hown⟩; obtain ⟨a', c', ev, -, hIs, -⟩ := owns_is hown (Wb.cut hb); obtain ⟨g, cap, rfl, hg, hgs, hfz, hcl, hset⟩ := owns_set hown hj; rw [cell_cut hj, eG] at hcl; simp only [Value.slice.injEq] at ev; obtain ⟨rfl, -, rfl⟩ := ev; have hg' : w.heap.size ≤ g := (by simp at hg; omega); have hgn : ¬ w.heap.size = g := (by simp at hg; omega); have hgm : ¬ g = w.heap.size := (by simp at hg; omega); clear hg hown; rw [eN] at hset; have hset : Hid _ := hset; have hIs : Hid _ := hIs))
            go_ret2
            exact ⟨_, _, rfl, (fun b o e => by simp only [Option.some.injEq, Addr.mk.injEq] at e; omega), ⟨_, (by repeat (first | (with_reducible exact Mr.refl _) | (with_reducible apply Mr.drew) | (with_reducible apply Mr.alloc) | (with_reducible apply Mr.ext) | (with_reducible refine Mr.setCell ?_ (by first | (simp; done) | (simp; omega) | omega | (refine leOf0 ?_; (repeat (first | (with_reducible exact Mr.refl _) | (with_reducible apply Mr.drew) | (with_reducible apply Mr.alloc) | (with_reducible apply Mr.ext) | (with_reducible refine Mr.setCell ?_ (by first | (simp; done) | (simp; omega) | omega) _))); done) | (refine leOf ?_; (repeat (first | (with_reducible exact Mr.refl _) | (with_reducible apply Mr.drew) | (with_reducible apply Mr.alloc) | (with_reducible apply Mr.ext) | (with_reducible refine Mr.setCell ?_ (by first | (simp; done) | (simp; omega) | omega) _))); done)) _)))⟩, rfl, hIs.out⟩
        · by_cases k3 : k = 3
          · subst k3
            have hw := wrap_bd (G + p)
            go_enter Try.func37, Try.ntmps37
            go_wp2_with (first | (go_at_call 29; refine (ras11_c _ (h.mr (by repeat (first | (with_reducible exact Mr.refl _) | (with_reducible apply Mr.drew) | (with_reducible apply Mr.alloc) | (with_reducible apply Mr.ext) | (with_reducible refine Mr.setCell ?_ (by first | (simp; done) | (simp; omega) | omega | (refine leOf0 ?_; (repeat (first | (with_reducible exact Mr.refl _) | (with_reducible apply Mr.drew) | (with_reducible apply Mr.alloc) | (with_reducible apply Mr.ext) | (with_reducible refine Mr.setCell ?_ (by first | (simp; done) | (simp; omega) | omega) _))); done) | (refine leOf ?_; (repeat (first | (with_reducible exact Mr.refl _) | (with_reducible apply Mr.drew) | (with_reducible apply Mr.alloc) | (with_reducible apply Mr.ext) | (with_reducible refine Mr.setCell ?_ (by first | (simp; done) | (simp; omega) | omega) _))); done)) _)))) en).mono ?_; rintro e w1 ⟨v, rfl, x, rfl, hown⟩; obtain ⟨a', c', ev, -, hIs, -⟩ := owns_is hown (Wb.cut hb); obtain ⟨g, cap, rfl, hg, hgs, hfz, hcl, hset⟩ := owns_set hown hj; rw [cell_cut hj, eG] at hcl; simp only [Value.slice.injEq] at ev; obtain ⟨rfl, -, rfl⟩ := ev; have hg' : w.heap.size ≤ g := (by simp at hg; omega); have hgn : ¬ w.heap.size = g := (by simp at hg; omega); have hgm : ¬ g = w.heap.size := (by simp at hg; omega); clear hg hown; rw [eN] at hset; have hset : Hid _ := hset; have hIs : Hid _ := hIs))
            refine wp_region_ext (by kernel_rfl) (by kernel_rfl) ?_
            repeat (go_big_quiet_step (fail))
            refine wpQuiet_nil ?_
            rintro w1 ⟨x9, rfl⟩
            go_wp2
            go_ret2
            exact ⟨_, _, rfl, (fun b o e => by simp only [Option.some.injEq, Addr.mk.injEq] at e; omega), ⟨_, (by repeat (first | (with_reducible exact Mr.refl _) | (with_reducible apply Mr.drew) | (with_reducible apply Mr.alloc) | (with_reducible apply Mr.ext) | (with_reducible refine Mr.setCell ?_ (by first | (simp; done) | (simp; omega) | omega | (refine leOf0 ?_; (repeat (first | (with_reducible exact Mr.refl _) | (with_reducible apply Mr.drew) | (with_reducible apply Mr.alloc) | (with_reducible apply Mr.ext) | (with_reducible refine Mr.setCell ?_ (by first | (simp; done) | (simp; omega) | omega) _))); done) | (refine leOf ?_; (repeat (first | (with_reducible exact Mr.refl _) | (with_reducible apply Mr.drew) | (with_reducible apply Mr.alloc) | (with_reducible apply Mr.ext) | (with_reducible refine Mr.setCell ?_ (by first | (simp; done) | (simp; omega) | omega) _))); done)) _)))⟩, rfl, (set_is hset.out hb.cut hw).ext x9⟩
          · have e0 : (k == 0) = false := by simpa using k0
            have e1 : (k == 1) = false := by simpa using k1
            have e2 : (k == 2) = false := by simpa using k2
            have e3 : (k == 3) = false := by simpa using k3
            rw [if_neg k1, if_neg k2, if_neg k3, if_neg k0, if_neg k2, if_neg k3]
            clear k0 k1 k2 k3
            go_enter Try.func37, Try.ntmps37
            go_wp2_with (first | (go_at_call 29; refine (ras11_c _ (h.mr (by repeat (first | (with_reducible exact Mr.refl _) | (with_reducible apply Mr.drew) | (with_reducible apply Mr.alloc) | (with_reducible apply Mr.ext) | (with_reducible refine Mr.setCell ?_ (by first | (simp; done) | (simp; omega) | omega | (refine leOf0 ?_; (repeat (first | (with_reducible exact Mr.refl _) | (with_reducible apply Mr.drew) | (with_reducible apply Mr.alloc) | (with_reducible apply Mr.ext) | (with_reducible refine Mr.setCell ?_ (by first | (simp; done) | (simp; omega) | omega) _))); done) | (refine leOf ?_; (repeat (first | (with_reducible exact Mr.refl _) | (with_reducible apply Mr.drew) | (with_reducible apply Mr.alloc) | (with_reducible apply Mr.ext) | (with_reducible refine Mr.setCell ?_ (by first | (simp; done) | (simp; omega) | omega) _))); done)) _)))) en).mono ?_; rintro e w1 ⟨v, rfl, x, rfl, hown⟩; obtain ⟨a', c', ev, -, hIs, -⟩ := owns_is hown (Wb.cut hb); obtain ⟨g, cap, rfl, hg, hgs, hfz, hcl, hset⟩ := owns_set hown hj; rw [cell_cut hj, eG] at hcl; simp only [Value.slice.injEq] at ev; obtain ⟨rfl, -, rfl⟩ := ev; have hg' : w.heap.size ≤ g := (by simp at hg; omega); have hgn : ¬ w.heap.size = g := (by simp at hg; omega); have hgm : ¬ g = w.heap.size := (by simp at hg; omega); clear hg hown; rw [eN] at hset; have hset : Hid _ := hset; have hIs : Hid _ := hIs))
            go_ret2
            exact ⟨_, _, rfl, (fun b o e => by simp only [Option.some.injEq, Addr.mk.injEq] at e; omega), ⟨_, (by repeat (first | (with_reducible exact Mr.refl _) | (with_reducible apply Mr.drew) | (with_reducible apply Mr.alloc) | (with_reducible apply Mr.ext) | (with_reducible refine Mr.setCell ?_ (by first | (simp; done) | (simp; omega) | omega | (refine leOf0 ?_; (repeat (first | (with_reducible exact Mr.refl _) | (with_reducible apply Mr.drew) | (with_reducible apply Mr.alloc) | (with_reducible apply Mr.ext) | (with_reducible refine Mr.setCell ?_ (by first | (simp; done) | (simp; omega) | omega) _))); done) | (refine leOf ?_; (repeat (first | (with_reducible exact Mr.refl _) | (with_reducible apply Mr.drew) | (with_reducible apply Mr.alloc) | (with_reducible apply Mr.ext) | (with_reducible refine Mr.setCell ?_ (by first | (simp; done) | (simp; omega) | omega) _))); done)) _)))⟩, rfl, hIs.out⟩
  · have hd := doM_out (m := l) (x := ⟨k, i, p, q⟩) (by rw [eN]; exact hin)
    rw [hd.1, hd.2, eN]
    clear hd
    by_cases hneg : i < 0
    · go_enter Try.func37, Try.ntmps37
      go_wp2_with (first | (go_at_call 29; refine (ras11_c _ (h.mr (by repeat (first | (with_reducible exact Mr.refl _) | (with_reducible apply Mr.drew) | (with_reducible apply Mr.alloc) | (with_reducible apply Mr.ext) | (with_reducible refine Mr.setCell ?_ (by first | (simp; done) | (simp; omega) | omega | (refine leOf0 ?_; (repeat (first | (with_reducible exact Mr.refl _) | (with_reducible apply Mr.drew) | (with_reducible apply Mr.alloc) | (with_reducible apply Mr.ext) | (with_reducible refine Mr.setCell ?_ (by first | (simp; done) | (simp; omega) | omega) _))); done) | (refine leOf ?_; (repeat (first | (with_reducible exact Mr.refl _) | (with_reducible apply Mr.drew) | (with_reducible apply Mr.alloc) | (with_reducible apply Mr.ext) | (with_reducible refine Mr.setCell ?_ (by first | (simp; done) | (simp; omega) | omega) _))); done)) _)))) en).mono ?_; rintro e w1 ⟨v, rfl, x, rfl, hown⟩; obtain ⟨a', c', rfl, -, hIs, hnb⟩ := owns_is hown (Wb.cut hb); have hnb : ∀ b o, a' = some ⟨b, o, none⟩ → w.heap.size ≤ b := (fun b o e => by have := hnb b o e; simp at this; omega); clear hown))
      go_ret2
      exact ⟨_, _, rfl, hnb, ⟨_, (by repeat (first | (with_reducible exact Mr.refl _) | (with_reducible apply Mr.drew) | (with_reducible apply Mr.alloc) | (with_reducible apply Mr.ext) | (with_reducible refine Mr.setCell ?_ (by first | (simp; done) | (simp; omega) | omega | (refine leOf0 ?_; (repeat (first | (with_reducible exact Mr.refl _) | (with_reducible apply Mr.drew) | (with_reducible apply Mr.alloc) | (with_reducible apply Mr.ext) | (with_reducible refine Mr.setCell ?_ (by first | (simp; done) | (simp; omega) | omega) _))); done) | (refine leOf ?_; (repeat (first | (with_reducible exact Mr.refl _) | (with_reducible apply Mr.drew) | (with_reducible apply Mr.alloc) | (with_reducible apply Mr.ext) | (with_reducible refine Mr.setCell ?_ (by first | (simp; done) | (simp; omega) | omega) _))); done)) _)))⟩, rfl, hIs⟩
    · have hge : (N : Int) ≤ i := by omega
      go_enter Try.func37, Try.ntmps37
      go_wp2_with (first | (go_at_call 29; refine (ras11_c _ (h.mr (by repeat (first | (with_reducible exact Mr.refl _) | (with_reducible apply Mr.drew) | (with_reducible apply Mr.alloc) | (with_reducible apply Mr.ext) | (with_reducible refine Mr.setCell ?_ (by first | (simp; done) | (simp; omega) | omega | (refine leOf0 ?_; (repeat (first | (with_reducible exact Mr.refl _) | (with_reducible apply Mr.drew) | (with_reducible apply Mr.alloc) | (with_reducible apply Mr.ext) | (with_reducible refine Mr.setCell ?_ (by first | (simp; done) | (simp; omega) | omega) _))); done) | (refine leOf ?_; (repeat (first | (with_reducible exact Mr.refl _) | (with_reducible apply Mr.drew) | (with_reducible apply Mr.alloc) | (with_reducible apply Mr.ext) | (with_reducible refine Mr.setCell ?_ (by first | (simp; done) | (simp; omega) | omega) _))); done)) _)))) en).mono ?_; rintro e w1 ⟨v, rfl, x, rfl, hown⟩; obtain ⟨a', c', rfl, -, hIs, hnb⟩ := owns_is hown (Wb.cut hb); have hnb : ∀ b o, a' = some ⟨b, o, none⟩ → w.heap.size ≤ b := (fun b o e => by have := hnb b o e; simp at this; omega); clear hown))
      go_ret2
      exact ⟨_, _, rfl, hnb, ⟨_, (by repeat (first | (with_reducible exact Mr.refl _) | (with_reducible apply Mr.drew) | (with_reducible apply Mr.alloc) | (with_reducible apply Mr.ext) | (with_reducible refine Mr.setCell ?_ (by first | (simp; done) | (simp; omega) | omega | (refine leOf0 ?_; (repeat (first | (with_reducible exact Mr.refl _) | (with_reducible apply Mr.drew) | (with_reducible apply Mr.alloc) | (with_reducible apply Mr.ext) | (with_reducible refine Mr.setCell ?_ (by first | (simp; done) | (simp; omega) | omega) _))); done) | (refine leOf ?_; (repeat (first | (with_reducible exact Mr.refl _) | (with_reducible apply Mr.drew) | (with_reducible apply Mr.alloc) | (with_reducible apply Mr.ext) | (with_reducible refine Mr.setCell ?_ (by first | (simp; done) | (simp; omega) | omega) _))); done)) _)))⟩, rfl, hIs⟩
end Ce
end Go.Proofs.Yteomkfgkhmdehaa
