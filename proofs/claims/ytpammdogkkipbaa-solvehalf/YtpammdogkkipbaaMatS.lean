/- Lists of lists of integers in memory. -/
import Derived.Test.YtpammdogkkipbaaSumS
namespace Go.Proofs.Ytpammdogkkipbaa
open Go.ChangeShapes Go.WideShapes Go.ChangeAt Go.RowKit
open Go.Proofs.Ytpammdogkkipbaa.Fx
namespace Sl
/-- The row at a place. -/
def rw' (L : List (List Int)) (j : Nat) : List Int := L.getD j []
/-- That a slice leads to a list of rows, each in memory of its own or not. -/
structure Rs (w : World) (a : Option Addr) (c : Nat) (L : List (List Int)) : Prop where
  le : L.length ≤ c
  max : c ≤ maxLen
  nil : a = none → c = 0
  at' : ∀ j, j < L.length → ∃ b o, a = some ⟨b, o, none⟩ ∧ b < w.heap.size ∧ ∀ i, i < L.length → ∃ ra rc, w.cell? ⟨b, o + i, none⟩ = some (.slice ra (rw' L i).length rc) ∧ Is w ra rc (rw' L i)
theorem Rs.ext {w : World} {a : Option Addr} {c : Nat} {L : List (List Int)} (h : Rs w a c L) (x : Ext w) : Rs x.u a c L :=
  ⟨h.le, h.max, h.nil, fun j hj => by
    obtain ⟨b, o, e, hb, hc⟩ := h.at' j hj
    refine ⟨b, o, e, Nat.lt_of_lt_of_le hb x.h.below.size, fun i hi => ?_⟩
    obtain ⟨ra, rc, h1, h2⟩ := hc i hi
    exact ⟨ra, rc, by rw [Ext.cell x b (o + i) hb]; exact h1, h2.ext x⟩⟩
theorem Rs.mr {w w' : World} {a : Option Addr} {c : Nat} {L : List (List Int)} (h : Rs w a c L) (m : Mr w w') : Rs w' a c L := h.ext ⟨w', m⟩
/-- A row's own place. -/
theorem Rs.row {w : World} {a : Option Addr} {c : Nat} {L : List (List Int)} (h : Rs w a c L) (i : Nat) (hi : i < L.length) : ∃ b o ra rc, a = some ⟨b, o, none⟩ ∧ b < w.heap.size ∧ w.cell? ⟨b, o + i, none⟩ = some (.slice ra (rw' L i).length rc) ∧ Is w ra rc (rw' L i) := by
  obtain ⟨b, o, e, hb, hc⟩ := h.at' i hi
  obtain ⟨ra, rc, h1, h2⟩ := hc i hi
  exact ⟨b, o, ra, rc, e, hb, h1, h2⟩
/-- A number's own place. -/
theorem Is.num {w : World} {a : Option Addr} {c : Nat} {l : List Int} (h : Is w a c l) (i : Nat) (hi : i < l.length) : ∃ b o, a = some ⟨b, o, none⟩ ∧ b < w.heap.size ∧ w.cell? ⟨b, o + i, none⟩ = some (.int .i64 (gt l i)) := by
  obtain ⟨b, o, e, hb, hc⟩ := h.at' i hi
  exact ⟨b, o, e, hb, hc i hi⟩
/-- A matrix. -/
def sq (L : List (List Int)) : Bool := L.all (fun r => r.length == L.length) && decide (1 ≤ L.length) && decide (L.length ≤ 6)
def few (L : List (List Int)) : Bool := L.all (fun r => decide (r.length ≤ 20)) && decide (L.length ≤ 20)
theorem all_rw (p : List Int → Bool) (L : List (List Int)) : L.all p = true ↔ ∀ j, j < L.length → p (rw' L j) = true := by
  rw [List.all_eq_true]
  constructor
  · intro h j hj
    unfold rw'
    rw [List.getD_eq_getElem?_getD, List.getElem?_eq_getElem hj]
    exact h _ (List.getElem_mem hj)
  · intro h x hx
    obtain ⟨j, hj, rfl⟩ := List.getElem_of_mem hx
    have := h j hj
    unfold rw' at this
    rwa [List.getD_eq_getElem?_getD, List.getElem?_eq_getElem hj] at this
theorem all_no (p : List Int → Bool) (L : List (List Int)) (j : Nat) (hj : j < L.length) (h : p (rw' L j) = false) : L.all p = false := by
  rw [Bool.eq_false_iff]
  intro e
  have := (all_rw p L).1 e j hj
  rw [h] at this
  cases this
theorem list_eq {l m : List Int} (hn : l.length = m.length) (h : ∀ j, j < l.length → gt l j = gt m j) : l = m := by
  apply List.ext_getElem? 
  intro j
  by_cases hj : j < l.length
  · have := h j hj
    unfold gt at this
    rw [List.getD_eq_getElem?_getD, List.getElem?_eq_getElem hj, List.getD_eq_getElem?_getD, List.getElem?_eq_getElem (by omega)] at this
    rw [List.getElem?_eq_getElem hj, List.getElem?_eq_getElem (by omega)]
    simpa using this
  · rw [List.getElem?_eq_none (by omega), List.getElem?_eq_none (by omega)]
theorem lists_eq {L M : List (List Int)} (hn : L.length = M.length) (h : ∀ j, j < L.length → rw' L j = rw' M j) : L = M := by
  apply List.ext_getElem?
  intro j
  by_cases hj : j < L.length
  · have := h j hj
    unfold rw' at this
    rw [List.getD_eq_getElem?_getD, List.getElem?_eq_getElem hj, List.getD_eq_getElem?_getD, List.getElem?_eq_getElem (by omega)] at this
    rw [List.getElem?_eq_getElem hj, List.getElem?_eq_getElem (by omega)]
    simpa using this
  · rw [List.getElem?_eq_none (by omega), List.getElem?_eq_none (by omega)]
end Sl
end Go.Proofs.Ytpammdogkkipbaa
/- The document's own answers of layer 8, first part: what only reads. -/
namespace Go.Proofs.Ytpammdogkkipbaa
open Go.ChangeShapes Go.WideShapes Go.ChangeAt Go.RowKit
open Go.Proofs.Ytpammdogkkipbaa.Fx Go.Proofs.Ytpammdogkkipbaa.Sl
set_option linter.unusedVariables false
attribute [local go_sem] Ext.cell Ext.froz Ext.lt Ext.lt1 Ext.lt2 Ext.lt3 Ext.all Ext.set_u drew_heap setCell_size Ext.set_size
namespace Ma
set_option maxHeartbeats 1000000 in
theorem rsane8_c {a : Option Addr} {c n : Nat} {L : List (List Int)} (w : World) (h : Rs w a c L) (en : L.length = n) :
    Calls Try.prog 25 #[.slice a n c] w fun e w' => e = .returned (.bool (sq L)) ∧ ∃ x : Ext w, w' = x.u := by
  have m0 := h.max
  have k0 := h.le
  unfold maxLen at m0
  have hn9 : n ≤ 9223372036854775807 := by omega
  have HS : Hid (sq L = (L.all (fun r => r.length == n) && decide (1 ≤ n) && decide (n ≤ 6))) := by unfold sq; rw [en]; trivial
  clear m0 k0
  go_enter Try.func25, Try.ntmps25
  go_wp2
  go_loopw [3] (fun i wr => ∃ j : Nat, j ≤ n ∧ i = .int .i64 j ∧ wr = w ∧ Hid (∀ k, k < j → (rw' L k).length = n)) (fun i _ => n - (intOf i).toNat)
  case atStart => exact ⟨0, by omega, rfl, rfl, fun k hk => by omega⟩
  case round =>
    obtain ⟨j, hj, rfl, rfl, HB⟩ := hrel
    by_cases hlt : j < n
    · obtain ⟨b, o, ra, rc, rfl, hb, hc, -⟩ := h.row j (by omega)
      have hlt' : (j : Int) < n := by omega
      by_cases he : (rw' L j).length = n
      · have he' : Hid ((rw' L j).length = n) := he
        rw [he] at hc
        clear h
        go_wp2
        go_roundw
        case rel => exact ⟨j + 1, by omega, by first | rfl | simp, by first | rfl | trivial, fun k hk => by rcases Nat.lt_or_ge k j with g | g; exact HB.out k g; obtain rfl : k = j := (by omega); exact he'.out⟩
        case measure => simp [intOf]; omega
      · have hf : Hid (sq L = false) := by rw [Hid, HS.out, all_no _ L j (by omega) (by simpa using he)]; rfl
        generalize (rw' L j).length = m at *
        have he' : ¬ (m : Int) = n := by omega
        clear h he
        go_wp2
        go_ret
        exact ⟨by rw [hf.out]; first | done | rfl, Mr.mk' (by repeat (first | (with_reducible exact Mr.refl _) | (with_reducible apply Mr.drew) | (with_reducible apply Mr.alloc) | (with_reducible apply Mr.ext) | (with_reducible refine Mr.setCell ?_ (by first | (simp; done) | (simp; omega) | omega | (refine leOf0 ?_; (repeat (first | (with_reducible exact Mr.refl _) | (with_reducible apply Mr.drew) | (with_reducible apply Mr.alloc) | (with_reducible apply Mr.ext) | (with_reducible refine Mr.setCell ?_ (by first | (simp; done) | (simp; omega) | omega) _))); done) | (refine leOf ?_; (repeat (first | (with_reducible exact Mr.refl _) | (with_reducible apply Mr.drew) | (with_reducible apply Mr.alloc) | (with_reducible apply Mr.ext) | (with_reducible refine Mr.setCell ?_ (by first | (simp; done) | (simp; omega) | omega) _))); done)) _)))⟩
    · obtain rfl : j = n := by omega
      have ha : Hid (sq L = (decide (1 ≤ (j : Int)) && decide ((j : Int) ≤ 6))) := by
        rw [Hid, HS.out, (all_rw _ L).2 (fun k hk => by simpa using HB.out k (by omega)), Bool.true_and, show decide (1 ≤ j) = decide ((1 : Int) ≤ j) from decide_eq_decide.2 (by omega), show decide (j ≤ 6) = decide ((j : Int) ≤ 6) from decide_eq_decide.2 (by omega)]
      clear h HB
      by_cases h1 : (1 : Int) ≤ j
      · have hb : Hid (sq L = decide ((j : Int) ≤ 6)) := by rw [Hid, ha.out, decide_eq_true h1]; rfl
        go_wp2
        go_ret
        exact ⟨by rw [hb.out]; rfl, Mr.mk' (by repeat (first | (with_reducible exact Mr.refl _) | (with_reducible apply Mr.drew) | (with_reducible apply Mr.alloc) | (with_reducible apply Mr.ext) | (with_reducible refine Mr.setCell ?_ (by first | (simp; done) | (simp; omega) | omega | (refine leOf0 ?_; (repeat (first | (with_reducible exact Mr.refl _) | (with_reducible apply Mr.drew) | (with_reducible apply Mr.alloc) | (with_reducible apply Mr.ext) | (with_reducible refine Mr.setCell ?_ (by first | (simp; done) | (simp; omega) | omega) _))); done) | (refine leOf ?_; (repeat (first | (with_reducible exact Mr.refl _) | (with_reducible apply Mr.drew) | (with_reducible apply Mr.alloc) | (with_reducible apply Mr.ext) | (with_reducible refine Mr.setCell ?_ (by first | (simp; done) | (simp; omega) | omega) _))); done)) _)))⟩
      · have hb : Hid (sq L = false) := by rw [Hid, ha.out, decide_eq_false h1]; rfl
        go_wp2
        go_ret
        exact ⟨by rw [hb.out]; rfl, Mr.mk' (by repeat (first | (with_reducible exact Mr.refl _) | (with_reducible apply Mr.drew) | (with_reducible apply Mr.alloc) | (with_reducible apply Mr.ext) | (with_reducible refine Mr.setCell ?_ (by first | (simp; done) | (simp; omega) | omega | (refine leOf0 ?_; (repeat (first | (with_reducible exact Mr.refl _) | (with_reducible apply Mr.drew) | (with_reducible apply Mr.alloc) | (with_reducible apply Mr.ext) | (with_reducible refine Mr.setCell ?_ (by first | (simp; done) | (simp; omega) | omega) _))); done) | (refine leOf ?_; (repeat (first | (with_reducible exact Mr.refl _) | (with_reducible apply Mr.drew) | (with_reducible apply Mr.alloc) | (with_reducible apply Mr.ext) | (with_reducible refine Mr.setCell ?_ (by first | (simp; done) | (simp; omega) | omega) _))); done)) _)))⟩
set_option maxHeartbeats 1000000 in
theorem rfew_c {a : Option Addr} {c n : Nat} {L : List (List Int)} (w : World) (h : Rs w a c L) (en : L.length = n) :
    Calls Try.prog 9 #[.slice a n c] w fun e w' => e = .returned (.bool (few L)) ∧ ∃ x : Ext w, w' = x.u := by
  have m0 := h.max
  have k0 := h.le
  unfold maxLen at m0
  have hn9 : n ≤ 9223372036854775807 := by omega
  have HS : Hid (few L = (L.all (fun r => decide (r.length ≤ 20)) && decide (n ≤ 20))) := by unfold few; rw [en]; trivial
  clear m0 k0
  go_enter Try.func9, Try.ntmps9
  go_wp2
  go_loopw [3] (fun i wr => ∃ j : Nat, j ≤ n ∧ i = .int .i64 j ∧ wr = w ∧ Hid (∀ k, k < j → (rw' L k).length ≤ 20)) (fun i _ => n - (intOf i).toNat)
  case atStart => exact ⟨0, by omega, rfl, rfl, fun k hk => by omega⟩
  case round =>
    obtain ⟨j, hj, rfl, rfl, HB⟩ := hrel
    by_cases hlt : j < n
    · obtain ⟨b, o, ra, rc, rfl, hb, hc, -⟩ := h.row j (by omega)
      have hlt' : (j : Int) < n := by omega
      obtain ⟨m, hm⟩ : ∃ m, (rw' L j).length = m := ⟨_, rfl⟩
      rw [hm] at hc
      by_cases he : m ≤ 20
      · have he' : (m : Int) ≤ 20 := by omega
        have Hm : Hid ((rw' L j).length ≤ 20) := by rw [Hid, hm]; exact he
        clear h hm
        go_wp2
        go_roundw
        case rel => exact ⟨j + 1, by omega, by first | rfl | simp, by first | rfl | trivial, fun k hk => by rcases Nat.lt_or_ge k j with g | g; exact HB.out k g; obtain rfl : k = j := (by omega); exact Hm.out⟩
        case measure => simp [intOf]; omega
      · have hf : Hid (few L = false) := by rw [Hid, HS.out, all_no _ L j (by omega) (by rw [hm]; exact decide_eq_false he)]; rfl
        have he' : (20 : Int) < m := by omega
        clear h he hm
        go_wp2
        go_ret
        exact ⟨by rw [hf.out]; first | done | rfl, Mr.mk' (by repeat (first | (with_reducible exact Mr.refl _) | (with_reducible apply Mr.drew) | (with_reducible apply Mr.alloc) | (with_reducible apply Mr.ext) | (with_reducible refine Mr.setCell ?_ (by first | (simp; done) | (simp; omega) | omega | (refine leOf0 ?_; (repeat (first | (with_reducible exact Mr.refl _) | (with_reducible apply Mr.drew) | (with_reducible apply Mr.alloc) | (with_reducible apply Mr.ext) | (with_reducible refine Mr.setCell ?_ (by first | (simp; done) | (simp; omega) | omega) _))); done) | (refine leOf ?_; (repeat (first | (with_reducible exact Mr.refl _) | (with_reducible apply Mr.drew) | (with_reducible apply Mr.alloc) | (with_reducible apply Mr.ext) | (with_reducible refine Mr.setCell ?_ (by first | (simp; done) | (simp; omega) | omega) _))); done)) _)))⟩
    · obtain rfl : j = n := by omega
      have ha : Hid (few L = decide ((j : Int) ≤ 20)) := by
        rw [Hid, HS.out, (all_rw _ L).2 (fun k hk => by simpa using HB.out k (by omega)), Bool.true_and, show decide (j ≤ 20) = decide ((j : Int) ≤ 20) from decide_eq_decide.2 (by omega)]
      clear h HB
      go_wp2
      go_ret
      exact ⟨by rw [ha.out]; rfl, Mr.mk' (by repeat (first | (with_reducible exact Mr.refl _) | (with_reducible apply Mr.drew) | (with_reducible apply Mr.alloc) | (with_reducible apply Mr.ext) | (with_reducible refine Mr.setCell ?_ (by first | (simp; done) | (simp; omega) | omega | (refine leOf0 ?_; (repeat (first | (with_reducible exact Mr.refl _) | (with_reducible apply Mr.drew) | (with_reducible apply Mr.alloc) | (with_reducible apply Mr.ext) | (with_reducible refine Mr.setCell ?_ (by first | (simp; done) | (simp; omega) | omega) _))); done) | (refine leOf ?_; (repeat (first | (with_reducible exact Mr.refl _) | (with_reducible apply Mr.drew) | (with_reducible apply Mr.alloc) | (with_reducible apply Mr.ext) | (with_reducible refine Mr.setCell ?_ (by first | (simp; done) | (simp; omega) | omega) _))); done)) _)))⟩
set_option maxHeartbeats 1000000 in
theorem rints_c {a b : Option Addr} {c d n m : Nat} {l k : List Int} (w : World) (h : Is w a c l) (en : l.length = n) (g : Is w b d k) (em : k.length = m) :
    Calls Try.prog 15 #[.slice a n c, .slice b m d] w fun e w' => e = .returned (.bool (decide (l = k))) ∧ ∃ x : Ext w, w' = x.u := by
  have m0 := h.max
  have k0 := h.le
  have m1 := g.max
  have k1 := g.le
  unfold maxLen at m0 m1
  have hn9 : n ≤ 9223372036854775807 := by omega
  have hm9 : m ≤ 9223372036854775807 := by omega
  clear m0 k0 m1 k1
  by_cases hnm : n = m
  · subst hnm
    go_enter Try.func15, Try.ntmps15
    go_wp2
    go_loopw [5] (fun i wr => ∃ j : Nat, j ≤ n ∧ i = .int .i64 j ∧ (∃ y : Ext w, wr = y.u) ∧ Hid (∀ q, q < j → gt l q = gt k q)) (fun i _ => n - (intOf i).toNat)
    case atStart => exact ⟨0, by omega, rfl, Mr.mk' (Mr.refl _), fun q hq => by omega⟩
    case round =>
      obtain ⟨j, hj, rfl, ⟨y, rfl⟩, HB⟩ := hrel
      by_cases hlt : j < n
      · obtain ⟨b1, o1, rfl, hb1, hc1⟩ := h.num j (by omega)
        obtain ⟨b2, o2, rfl, hb2, hc2⟩ := g.num j (by omega)
        have hlt' : (j : Int) < n := by omega
        by_cases he : gt l j = gt k j
        · have he' : Hid (gt l j = gt k j) := he
          rw [he] at hc1
          have HN : Hid (∀ q, q < j + 1 → gt l q = gt k q) := fun q hq => by rcases Nat.lt_or_ge q j with g | g; exact HB.out q g; obtain rfl : q = j := (by omega); exact he'.out
          clear h g he he' HB
          generalize gt k j = v at *
          go_wp2
          refine wp_region_ext (by kernel_rfl) (by kernel_rfl) ?_; (repeat (go_big_quiet_step (fail))); refine wpQuiet_nil ?_; rintro w1 ⟨x9, rfl⟩; go_wp2
          go_roundw
          case rel => exact ⟨j + 1, by omega, by first | rfl | simp, Mr.mk' (by repeat (first | (with_reducible exact Mr.refl _) | (with_reducible apply Mr.drew) | (with_reducible apply Mr.alloc) | (with_reducible apply Mr.ext) | (with_reducible refine Mr.setCell ?_ (by first | (simp; done) | (simp; omega) | omega | (refine leOf0 ?_; (repeat (first | (with_reducible exact Mr.refl _) | (with_reducible apply Mr.drew) | (with_reducible apply Mr.alloc) | (with_reducible apply Mr.ext) | (with_reducible refine Mr.setCell ?_ (by first | (simp; done) | (simp; omega) | omega) _))); done) | (refine leOf ?_; (repeat (first | (with_reducible exact Mr.refl _) | (with_reducible apply Mr.drew) | (with_reducible apply Mr.alloc) | (with_reducible apply Mr.ext) | (with_reducible refine Mr.setCell ?_ (by first | (simp; done) | (simp; omega) | omega) _))); done)) _))), HN⟩
          case measure => simp [intOf]; omega
        · have hf : Hid (decide (l = k) = false) := decide_eq_false (fun e => he (by rw [e]))
          clear h g
          generalize gt k j = v at *
          generalize gt l j = u at *
          have he' : (u == v) = false := by simpa using he
          clear he
          go_wp2
          refine wp_region_ext (by kernel_rfl) (by kernel_rfl) ?_; (repeat (go_big_quiet_step (fail))); refine wpQuiet_nil ?_; rintro w1 ⟨x9, rfl⟩; go_wp2
          go_ret
          exact ⟨by rw [hf.out]; rfl, Mr.mk' (by repeat (first | (with_reducible exact Mr.refl _) | (with_reducible apply Mr.drew) | (with_reducible apply Mr.alloc) | (with_reducible apply Mr.ext) | (with_reducible refine Mr.setCell ?_ (by first | (simp; done) | (simp; omega) | omega | (refine leOf0 ?_; (repeat (first | (with_reducible exact Mr.refl _) | (with_reducible apply Mr.drew) | (with_reducible apply Mr.alloc) | (with_reducible apply Mr.ext) | (with_reducible refine Mr.setCell ?_ (by first | (simp; done) | (simp; omega) | omega) _))); done) | (refine leOf ?_; (repeat (first | (with_reducible exact Mr.refl _) | (with_reducible apply Mr.drew) | (with_reducible apply Mr.alloc) | (with_reducible apply Mr.ext) | (with_reducible refine Mr.setCell ?_ (by first | (simp; done) | (simp; omega) | omega) _))); done)) _)))⟩
      · obtain rfl : j = n := by omega
        have hf : Hid (decide (l = k) = true) := decide_eq_true (list_eq (by omega) (fun q hq => HB.out q (by omega)))
        clear h g
        go_wp2
        go_ret
        exact ⟨by rw [hf.out]; rfl, Mr.mk' (by repeat (first | (with_reducible exact Mr.refl _) | (with_reducible apply Mr.drew) | (with_reducible apply Mr.alloc) | (with_reducible apply Mr.ext) | (with_reducible refine Mr.setCell ?_ (by first | (simp; done) | (simp; omega) | omega | (refine leOf0 ?_; (repeat (first | (with_reducible exact Mr.refl _) | (with_reducible apply Mr.drew) | (with_reducible apply Mr.alloc) | (with_reducible apply Mr.ext) | (with_reducible refine Mr.setCell ?_ (by first | (simp; done) | (simp; omega) | omega) _))); done) | (refine leOf ?_; (repeat (first | (with_reducible exact Mr.refl _) | (with_reducible apply Mr.drew) | (with_reducible apply Mr.alloc) | (with_reducible apply Mr.ext) | (with_reducible refine Mr.setCell ?_ (by first | (simp; done) | (simp; omega) | omega) _))); done)) _)))⟩
  · have hf : Hid (decide (l = k) = false) := decide_eq_false (fun e => hnm (by rw [← en, ← em, e]))
    have hne : ¬ (n : Int) = m := by omega
    go_enter Try.func15, Try.ntmps15
    go_wp2
    go_ret
    exact ⟨by rw [hf.out]; rfl, Mr.mk' (by repeat (first | (with_reducible exact Mr.refl _) | (with_reducible apply Mr.drew) | (with_reducible apply Mr.alloc) | (with_reducible apply Mr.ext) | (with_reducible refine Mr.setCell ?_ (by first | (simp; done) | (simp; omega) | omega | (refine leOf0 ?_; (repeat (first | (with_reducible exact Mr.refl _) | (with_reducible apply Mr.drew) | (with_reducible apply Mr.alloc) | (with_reducible apply Mr.ext) | (with_reducible refine Mr.setCell ?_ (by first | (simp; done) | (simp; omega) | omega) _))); done) | (refine leOf ?_; (repeat (first | (with_reducible exact Mr.refl _) | (with_reducible apply Mr.drew) | (with_reducible apply Mr.alloc) | (with_reducible apply Mr.ext) | (with_reducible refine Mr.setCell ?_ (by first | (simp; done) | (simp; omega) | omega) _))); done)) _)))⟩
set_option maxHeartbeats 1000000 in
theorem rsame_c {a b : Option Addr} {c d n m : Nat} {L M : List (List Int)} (w : World) (h : Rs w a c L) (en : L.length = n) (g : Rs w b d M) (em : M.length = m) :
    Calls Try.prog 14 #[.slice a n c, .slice b m d] w fun e w' => e = .returned (.bool (decide (L = M))) ∧ ∃ x : Ext w, w' = x.u := by
  have m0 := h.max
  have k0 := h.le
  have m1 := g.max
  have k1 := g.le
  unfold maxLen at m0 m1
  have hn9 : n ≤ 9223372036854775807 := by omega
  have hm9 : m ≤ 9223372036854775807 := by omega
  clear m0 k0 m1 k1
  by_cases hnm : n = m
  · subst hnm
    go_enter Try.func14, Try.ntmps14
    go_wp2
    go_loopw [5] (fun i wr => ∃ j : Nat, j ≤ n ∧ i = .int .i64 j ∧ (∃ y : Ext w, wr = y.u) ∧ Hid (∀ q, q < j → rw' L q = rw' M q)) (fun i _ => n - (intOf i).toNat)
    case atStart => exact ⟨0, by omega, rfl, Mr.mk' (Mr.refl _), fun q hq => by omega⟩
    case round =>
      obtain ⟨j, hj, rfl, ⟨y, rfl⟩, HB⟩ := hrel
      by_cases hlt : j < n
      · obtain ⟨b1, o1, ra1, rc1, rfl, hb1, hc1, hI1⟩ := h.row j (by omega)
        obtain ⟨b2, o2, ra2, rc2, rfl, hb2, hc2, hI2⟩ := g.row j (by omega)
        have hlt' : (j : Int) < n := by omega
        obtain ⟨n1, e1⟩ : ∃ n1, (rw' L j).length = n1 := ⟨_, rfl⟩
        obtain ⟨n2, e2⟩ : ∃ n2, (rw' M j).length = n2 := ⟨_, rfl⟩
        rw [e1] at hc1
        rw [e2] at hc2
        by_cases he : rw' L j = rw' M j
        · have he' : Hid (rw' L j = rw' M j) := he
          have hd : decide (rw' L j = rw' M j) = true := decide_eq_true he
          have HN : Hid (∀ q, q < j + 1 → rw' L q = rw' M q) := fun q hq => by rcases Nat.lt_or_ge q j with g | g; exact HB.out q g; obtain rfl : q = j := (by omega); exact he'.out
          clear h g he he' HB
          generalize rw' L j = u at *
          generalize rw' M j = v at *
          go_wp2
          refine wp_region_ext (by kernel_rfl) (by kernel_rfl) ?_
          repeat (go_big_quiet_step ((go_at_call 15; exact extCall (rints_c _ (hI1.mr (by repeat (first | (with_reducible exact Mr.refl _) | (with_reducible apply Mr.drew) | (with_reducible apply Mr.alloc) | (with_reducible apply Mr.ext) | (with_reducible refine Mr.setCell ?_ (by first | (simp; done) | (simp; omega) | omega | (refine leOf0 ?_; (repeat (first | (with_reducible exact Mr.refl _) | (with_reducible apply Mr.drew) | (with_reducible apply Mr.alloc) | (with_reducible apply Mr.ext) | (with_reducible refine Mr.setCell ?_ (by first | (simp; done) | (simp; omega) | omega) _))); done) | (refine leOf ?_; (repeat (first | (with_reducible exact Mr.refl _) | (with_reducible apply Mr.drew) | (with_reducible apply Mr.alloc) | (with_reducible apply Mr.ext) | (with_reducible refine Mr.setCell ?_ (by first | (simp; done) | (simp; omega) | omega) _))); done)) _)))) e1 (hI2.mr (by repeat (first | (with_reducible exact Mr.refl _) | (with_reducible apply Mr.drew) | (with_reducible apply Mr.alloc) | (with_reducible apply Mr.ext) | (with_reducible refine Mr.setCell ?_ (by first | (simp; done) | (simp; omega) | omega | (refine leOf0 ?_; (repeat (first | (with_reducible exact Mr.refl _) | (with_reducible apply Mr.drew) | (with_reducible apply Mr.alloc) | (with_reducible apply Mr.ext) | (with_reducible refine Mr.setCell ?_ (by first | (simp; done) | (simp; omega) | omega) _))); done) | (refine leOf ?_; (repeat (first | (with_reducible exact Mr.refl _) | (with_reducible apply Mr.drew) | (with_reducible apply Mr.alloc) | (with_reducible apply Mr.ext) | (with_reducible refine Mr.setCell ?_ (by first | (simp; done) | (simp; omega) | omega) _))); done)) _)))) e2))))
          refine wpQuiet_nil ?_
          rintro w1 ⟨x9, rfl⟩
          go_wp2
          go_roundw
          case rel => exact ⟨j + 1, by omega, by first | rfl | simp, Mr.mk' (by repeat (first | (with_reducible exact Mr.refl _) | (with_reducible apply Mr.drew) | (with_reducible apply Mr.alloc) | (with_reducible apply Mr.ext) | (with_reducible refine Mr.setCell ?_ (by first | (simp; done) | (simp; omega) | omega | (refine leOf0 ?_; (repeat (first | (with_reducible exact Mr.refl _) | (with_reducible apply Mr.drew) | (with_reducible apply Mr.alloc) | (with_reducible apply Mr.ext) | (with_reducible refine Mr.setCell ?_ (by first | (simp; done) | (simp; omega) | omega) _))); done) | (refine leOf ?_; (repeat (first | (with_reducible exact Mr.refl _) | (with_reducible apply Mr.drew) | (with_reducible apply Mr.alloc) | (with_reducible apply Mr.ext) | (with_reducible refine Mr.setCell ?_ (by first | (simp; done) | (simp; omega) | omega) _))); done)) _))), HN⟩
          case measure => simp [intOf]; omega
        · have hf : Hid (decide (L = M) = false) := decide_eq_false (fun e => he (by rw [e]))
          have hd : decide (rw' L j = rw' M j) = false := decide_eq_false he
          clear h g he
          generalize rw' L j = u at *
          generalize rw' M j = v at *
          go_wp2
          refine wp_region_ext (by kernel_rfl) (by kernel_rfl) ?_
          repeat (go_big_quiet_step ((go_at_call 15; exact extCall (rints_c _ (hI1.mr (by repeat (first | (with_reducible exact Mr.refl _) | (with_reducible apply Mr.drew) | (with_reducible apply Mr.alloc) | (with_reducible apply Mr.ext) | (with_reducible refine Mr.setCell ?_ (by first | (simp; done) | (simp; omega) | omega | (refine leOf0 ?_; (repeat (first | (with_reducible exact Mr.refl _) | (with_reducible apply Mr.drew) | (with_reducible apply Mr.alloc) | (with_reducible apply Mr.ext) | (with_reducible refine Mr.setCell ?_ (by first | (simp; done) | (simp; omega) | omega) _))); done) | (refine leOf ?_; (repeat (first | (with_reducible exact Mr.refl _) | (with_reducible apply Mr.drew) | (with_reducible apply Mr.alloc) | (with_reducible apply Mr.ext) | (with_reducible refine Mr.setCell ?_ (by first | (simp; done) | (simp; omega) | omega) _))); done)) _)))) e1 (hI2.mr (by repeat (first | (with_reducible exact Mr.refl _) | (with_reducible apply Mr.drew) | (with_reducible apply Mr.alloc) | (with_reducible apply Mr.ext) | (with_reducible refine Mr.setCell ?_ (by first | (simp; done) | (simp; omega) | omega | (refine leOf0 ?_; (repeat (first | (with_reducible exact Mr.refl _) | (with_reducible apply Mr.drew) | (with_reducible apply Mr.alloc) | (with_reducible apply Mr.ext) | (with_reducible refine Mr.setCell ?_ (by first | (simp; done) | (simp; omega) | omega) _))); done) | (refine leOf ?_; (repeat (first | (with_reducible exact Mr.refl _) | (with_reducible apply Mr.drew) | (with_reducible apply Mr.alloc) | (with_reducible apply Mr.ext) | (with_reducible refine Mr.setCell ?_ (by first | (simp; done) | (simp; omega) | omega) _))); done)) _)))) e2))))
          refine wpQuiet_nil ?_
          rintro w1 ⟨x9, rfl⟩
          go_wp2
          go_ret
          exact ⟨by rw [hf.out]; rfl, Mr.mk' (by repeat (first | (with_reducible exact Mr.refl _) | (with_reducible apply Mr.drew) | (with_reducible apply Mr.alloc) | (with_reducible apply Mr.ext) | (with_reducible refine Mr.setCell ?_ (by first | (simp; done) | (simp; omega) | omega | (refine leOf0 ?_; (repeat (first | (with_reducible exact Mr.refl _) | (with_reducible apply Mr.drew) | (with_reducible apply Mr.alloc) | (with_reducible apply Mr.ext) | (with_reducible refine Mr.setCell ?_ (by first | (simp; done) | (simp; omega) | omega) _))); done) | (refine leOf ?_; (repeat (first | (with_reducible exact Mr.refl _) | (with_reducible apply Mr.drew) | (with_reducible apply Mr.alloc) | (with_reducible apply Mr.ext) | (with_reducible refine Mr.setCell ?_ (by first | (simp; done) | (simp; omega) | omega) _))); done)) _)))⟩
      · obtain rfl : j = n := by omega
        have hf : Hid (decide (L = M) = true) := decide_eq_true (lists_eq (by omega) (fun q hq => HB.out q (by omega)))
        clear h g
        go_wp2
        go_ret
        exact ⟨by rw [hf.out]; rfl, Mr.mk' (by repeat (first | (with_reducible exact Mr.refl _) | (with_reducible apply Mr.drew) | (with_reducible apply Mr.alloc) | (with_reducible apply Mr.ext) | (with_reducible refine Mr.setCell ?_ (by first | (simp; done) | (simp; omega) | omega | (refine leOf0 ?_; (repeat (first | (with_reducible exact Mr.refl _) | (with_reducible apply Mr.drew) | (with_reducible apply Mr.alloc) | (with_reducible apply Mr.ext) | (with_reducible refine Mr.setCell ?_ (by first | (simp; done) | (simp; omega) | omega) _))); done) | (refine leOf ?_; (repeat (first | (with_reducible exact Mr.refl _) | (with_reducible apply Mr.drew) | (with_reducible apply Mr.alloc) | (with_reducible apply Mr.ext) | (with_reducible refine Mr.setCell ?_ (by first | (simp; done) | (simp; omega) | omega) _))); done)) _)))⟩
  · have hf : Hid (decide (L = M) = false) := decide_eq_false (fun e => hnm (by rw [← en, ← em, e]))
    have hne : ¬ (n : Int) = m := by omega
    go_enter Try.func14, Try.ntmps14
    go_wp2
    go_ret
    exact ⟨by rw [hf.out]; rfl, Mr.mk' (by repeat (first | (with_reducible exact Mr.refl _) | (with_reducible apply Mr.drew) | (with_reducible apply Mr.alloc) | (with_reducible apply Mr.ext) | (with_reducible refine Mr.setCell ?_ (by first | (simp; done) | (simp; omega) | omega | (refine leOf0 ?_; (repeat (first | (with_reducible exact Mr.refl _) | (with_reducible apply Mr.drew) | (with_reducible apply Mr.alloc) | (with_reducible apply Mr.ext) | (with_reducible refine Mr.setCell ?_ (by first | (simp; done) | (simp; omega) | omega) _))); done) | (refine leOf ?_; (repeat (first | (with_reducible exact Mr.refl _) | (with_reducible apply Mr.drew) | (with_reducible apply Mr.alloc) | (with_reducible apply Mr.ext) | (with_reducible refine Mr.setCell ?_ (by first | (simp; done) | (simp; omega) | omega) _))); done)) _)))⟩
end Ma
end Go.Proofs.Ytpammdogkkipbaa
