/- The contracts of package mat, first part: what lays rows. -/
import Derived.Test.YtpammdogkkipbaaMatC0
import Derived.Shelf.Abstract
namespace Go.Proofs.Ytpammdogkkipbaa
open Go.ChangeShapes Go.WideShapes Go.ChangeAt Go.RowKit Go.Shelf
open Go.Proofs.Ytpammdogkkipbaa.Fx Go.Proofs.Ytpammdogkkipbaa.Sl Go.Proofs.Ytpammdogkkipbaa.Sm
set_option linter.unusedVariables false
attribute [local go_sem] Ext.cell Ext.froz Ext.lt Ext.lt1 Ext.lt2 Ext.lt3 Ext.all Ext.set_u drew_heap setCell_size Ext.set_size
namespace Ma
theorem set_alloc {W : World} {b o : Nat} {v : Value} {ob : Obj} (h : b < W.heap.size) : (W.alloc ob).setCell ⟨b, o, none⟩ v = (W.setCell ⟨b, o, none⟩ v).alloc ob := by simp [go_sem, h]
set_option maxRecDepth 100000 in
set_option maxHeartbeats 2000000 in
/-- So many rows of zeros. -/
theorem blank_c (n : Nat) (w : World) (h6 : n ≤ 6) :
    Calls Try.prog 37 #[.int .i64 n] w fun e w' => ∃ G R, e = .returned (.slice (some ⟨G, 0, none⟩) n n) ∧ ∃ x : Ext w, w' = x.u ∧ Om w.heap.size x.u G n R (fun _ _ => 0) := by
  have hmk1 := run_make_row' (P := Try.prog) 53 23 (.slice none 0 0) 24 Try.underlying53 infoS rfl .i64 .i64 n (by omega) (by omega)
  have hmk2 := run_make_row' (P := Try.prog) 23 3 (.int .i64 0) 8 Try.underlying23 infoI rfl .i64 .i64 n (by omega) (by omega)
  go_enter Try.func37, Try.ntmps37
  go_wp2
  go_loopw [9] (fun i wr => ∃ k : Nat, k ≤ n ∧ i = .int .i64 k ∧ (∃ R, Ob w.heap.size wr w.heap.size n k R) ∧ Mr w wr) (fun i _ => (n - (intOf i).toNat))
  case atStart => exact ⟨0, by omega, rfl, ⟨fun _ => 0, Ob.nil _ _ _⟩, (by repeat (first | (with_reducible exact Mr.refl _) | (with_reducible assumption) | (with_reducible apply Mr.drew) | (with_reducible apply Mr.alloc) | (with_reducible apply Mr.ext) | (with_reducible refine Mr.setCell ?_ (by first | (simp; done) | (simp; omega) | omega | (refine leOf0 ?_; (repeat (first | (with_reducible exact Mr.refl _) | (with_reducible apply Mr.drew) | (with_reducible apply Mr.alloc) | (with_reducible apply Mr.ext) | (with_reducible refine Mr.setCell ?_ (by first | (simp; done) | (simp; omega) | omega) _))); done) | (refine leOf ?_; (repeat (first | (with_reducible exact Mr.refl _) | (with_reducible apply Mr.drew) | (with_reducible apply Mr.alloc) | (with_reducible apply Mr.ext) | (with_reducible refine Mr.setCell ?_ (by first | (simp; done) | (simp; omega) | omega) _))); done)) _)))⟩
  case round =>
    obtain ⟨k, hk, rfl, ⟨R, hO⟩, hm⟩ := hrel
    by_cases hlt : k < n
    · have hlt' : (k : Int) < n := by omega
      have hg := hO.lst.lt
      have hfz := hO.lst.frozen k
      have hcl := hO.lst.cell hlt
      rw [if_neg (by omega)] at hcl
      have hP := hO.push hlt hm.below.size
      rw [set_alloc hg] at hP
      clear hO
      go_wp2
      go_roundw
      case rel => exact ⟨k + 1, by omega, by go_num, ⟨_, hP⟩, (hm.setCell (by simp) _).alloc _⟩
      case measure => simp [intOf]; omega
    · obtain rfl : k = n := by omega
      have hD := hO.done
      go_wp2
      go_ret
      exact ⟨_, _, rfl, ⟨_, hm⟩, rfl, hD⟩
set_option maxHeartbeats 1000000 in
/-- One row, in the memory of the matrix. -/
theorem row_c {a : Option Addr} {c n : Nat} {L : List (List Int)} (w : World) (h : Rs w a c L) (en : L.length = n) (hn9 : n ≤ 6) (i : Nat) (hi : i < n) :
    Calls Try.prog 65 #[.slice a n c, .int .i64 i] w fun e w' => ∃ ra rc, e = .returned (.slice ra (rw' L i).length rc) ∧ ∃ x : Ext w, w' = x.u ∧ Is x.u ra rc (rw' L i) := by
  obtain ⟨b, o, ra, rc, rfl, hb, hc, hI⟩ := h.row i (by omega)
  have hi' : (i : Int) < n := by omega
  obtain ⟨m, hm⟩ : ∃ m, (rw' L i).length = m := ⟨_, rfl⟩
  rw [hm] at hc ⊢
  clear h
  go_enter Try.func65, Try.ntmps65
  go_wp2
  go_ret
  exact ⟨ra, rc, rfl, ⟨_, Mr.refl _⟩, rfl, hI⟩
set_option maxRecDepth 100000 in
set_option maxHeartbeats 2000000 in
/-- One column, as a row. -/
theorem column_c {a : Option Addr} {c n : Nat} {L : List (List Int)} (w : World) (h : Rs w a c L) (en : L.length = n) (h6 : n ≤ 6) (j : Nat) (hj : ∀ k, k < n → j < (rw' L k).length) :
    Calls Try.prog 40 #[.slice a n c, .int .i64 j] w fun e w' => ∃ ra rc, e = .returned (.slice ra n rc) ∧ ∃ x : Ext w, w' = x.u ∧ Is x.u ra rc (col L j) := by
  have hmk2 := run_make_row' (P := Try.prog) 23 3 (.int .i64 0) 8 Try.underlying23 infoI rfl .i64 .i64 n (by omega) (by omega)
  go_enter Try.func40, Try.ntmps40
  go_wp2
  go_loopw [13] (fun i wr => ∃ k : Nat, k ≤ n ∧ i = .int .i64 k ∧ wr.rowIs w.heap.size 3 n (fun p => .int .i64 (if p < k then gt (rw' L p) j else 0)) ∧ Mr w wr) (fun i _ => (n - (intOf i).toNat))
  case atStart => exact ⟨0, by omega, rfl, (World.rowIs_made w (.int .i64 0) n 3).congr (fun i _ => by rw [if_neg (by omega)]), (by repeat (first | (with_reducible exact Mr.refl _) | (with_reducible assumption) | (with_reducible apply Mr.drew) | (with_reducible apply Mr.alloc) | (with_reducible apply Mr.ext) | (with_reducible refine Mr.setCell ?_ (by first | (simp; done) | (simp; omega) | omega | (refine leOf0 ?_; (repeat (first | (with_reducible exact Mr.refl _) | (with_reducible apply Mr.drew) | (with_reducible apply Mr.alloc) | (with_reducible apply Mr.ext) | (with_reducible refine Mr.setCell ?_ (by first | (simp; done) | (simp; omega) | omega) _))); done) | (refine leOf ?_; (repeat (first | (with_reducible exact Mr.refl _) | (with_reducible apply Mr.drew) | (with_reducible apply Mr.alloc) | (with_reducible apply Mr.ext) | (with_reducible refine Mr.setCell ?_ (by first | (simp; done) | (simp; omega) | omega) _))); done)) _)))⟩
  case round =>
    obtain ⟨k, hk, rfl, hO, hm⟩ := hrel
    by_cases hlt : k < n
    · have hlt' : (k : Int) < n := by omega
      obtain ⟨b1, o1, ra, rc, rfl, hb1, hc1, hI⟩ := (h.mr hm).row k (by omega)
      have hjk := hj k hlt
      obtain ⟨b2, o2, rfl, hb2, hc2⟩ := hI.num j hjk
      have hjk' : (j : Int) < ((rw' L k).length : Nat) := by omega
      have hg := hO.lt
      have hfz := hO.frozen k
      have hcl := hO.cell hlt
      have hP : (wr.setCell ⟨w.heap.size, k, none⟩ (.int .i64 (gt (rw' L k) j))).rowIs w.heap.size 3 n (fun p => .int .i64 (if p < k + 1 then gt (rw' L p) j else 0)) := (hO.set k _).congr (fun i hi => by
        by_cases e : i = k
        · subst e; rw [if_pos rfl, if_pos (by omega)]
        · rw [if_neg e]
          by_cases l : i < k
          · rw [if_pos l, if_pos (by omega)]
          · rw [if_neg l, if_neg (by omega)])
      generalize hq : (rw' L k).length = m at *
      generalize hX : gt (rw' L k) j = X at *
      clear h hj hI hq hX hO
      go_wp2
      go_roundw
      case rel => exact ⟨k + 1, by omega, by go_num, hP, hm.setCell (by simp) _⟩
      case measure => simp [intOf]; omega
    · obtain rfl : k = n := by omega
      have hIs : Is wr (some ⟨w.heap.size, 0, none⟩) k (col L j) := by
        rw [col_mk, en]
        exact is_rowIs (hO.congr (fun i hi => by rw [if_pos hi])) (by unfold maxLen; omega) (fun q hq => by obtain ⟨b1, o1, ra, rc, e, hb1, hc1, hI⟩ := h.row q (by omega); exact hI.bd j)
      clear h hj hO
      go_wp2
      go_ret
      exact ⟨_, _, rfl, ⟨_, hm⟩, rfl, hIs⟩
theorem is_src {W : World} {ra : Option Addr} {rc : Nat} {l : List Int} (h : Is W ra rc l) (hn : 0 < l.length) : ∃ b o, ra = some ⟨b, o, none⟩ ∧ ∀ j v, (l.map (Value.int .i64))[j]? = some v → W.cell? ((⟨b, o, none⟩ : Addr).add j) = some v := by
  obtain ⟨b, o, e, hb, hc⟩ := h.at' 0 hn
  refine ⟨b, o, e, fun j v hv => ?_⟩
  rw [List.getElem?_map] at hv
  by_cases hj : j < l.length
  · rw [List.getElem?_eq_getElem hj] at hv
    simp only [Option.map_some, Option.some.injEq] at hv
    have e2 : l[j] = gt l j := by unfold gt; rw [List.getD_eq_getElem?_getD, List.getElem?_eq_getElem hj]; rfl
    rw [← hv, e2]
    rw [show (⟨b, o, none⟩ : Addr).add j = ⟨b, o + j, none⟩ by unfold Addr.add; split <;> simp_all]
    exact hc j hj
  · rw [List.getElem?_eq_none (by omega)] at hv
    cases hv
theorem gt_at {l : List Int} {j : Nat} (hj : j < l.length) : l[j] = gt l j := by
  unfold gt
  rw [List.getD_eq_getElem?_getD, List.getElem?_eq_getElem hj]; rfl
/-- A list copied over a whole row. -/
theorem om_copy {B : Nat} {w0 W : World} {g n b o rc : Nat} {R : Nat → Nat} {F : Nat → Nat → Int} (h : Om B W g n R F) (i : Nat) (hi : i < n) (l : List Int) (hl : l.length = n) (hm : Below B w0 W)
    (hsrc : ∀ j v, (l.map (Value.int .i64))[j]? = some v → W.cell? ((⟨b, o, none⟩ : Addr).add j) = some v) :
    ∃ W2, (Builtin.copy_ #[23, 23] 3 #[.slice (some ⟨R i, 0, none⟩) n n, .slice (some ⟨b, o, none⟩) n rc]).run Try.prog W = .ok (goInt n) W2 ∧ Om B W2 g n R (fun p q => if p = i then gt l q else F p q) ∧ Below B w0 W2 := by
  obtain ⟨hRB, c, hc, hn, -⟩ := h.row i hi
  have hln : (l.map (Value.int .i64)).length = n := by rw [List.length_map]; exact hl
  have hrun := run_copy_row (P := Try.prog) W 23 23 3 3 (R i) 0 n n ⟨b, o, none⟩ n rc c 3 (l.map (Value.int .i64)) Try.underlying23 (by kernel_rfl) hc (by rw [hln]; exact (Nat.min_self n).symm) hsrc (by rw [hln]; omega) (by intro v hv; rw [List.mem_map] at hv; obtain ⟨z, -, rfl⟩ := hv; rfl)
  have e : c.toList.take 0 ++ l.map (Value.int .i64) ++ c.toList.drop (0 + (l.map (Value.int .i64)).length) = l.map (Value.int .i64) := by
    rw [List.take_zero, List.nil_append, List.drop_of_length_le (by rw [hln, Array.length_toList]; omega), List.append_nil]
  rw [e, hln] at hrun
  refine ⟨_, hrun, ?_, below_setRow hm hRB _⟩
  refine h.rowSet i hi (gt l) ⟨_, setRow_heap W _ _ _ _ _ hc, by simpa using hl, fun j hj => ?_⟩ (fun b hb _ => setRow_other W _ _ _ hb)
  rw [List.getElem?_toArray, List.getElem?_map, List.getElem?_eq_getElem (by omega), Option.map_some, gt_at]
set_option maxRecDepth 100000 in
set_option maxHeartbeats 2000000 in
/-- The matrix of so many rows that are copied from what a method value tells of each place. -/
theorem lined_c (g : Nat) (eg : ∀ args w, (callFunc g args).run Try.prog w = .ok (.enter g args) w) (recv : Value) (Lf : Nat → List Int) (n : Nat) (h6 : n ≤ 6) (w : World) (hl : ∀ i, i < n → (Lf i).length = n)
    (hc : ∀ W : World, Mr w W → ∀ i : Nat, i < n → Calls Try.prog g #[recv, .int .i64 i] W fun e w' => ∃ ra rc, e = .returned (.slice ra n rc) ∧ ∃ x : Ext W, w' = x.u ∧ Is x.u ra rc (Lf i)) :
    Calls Try.prog 39 #[.int .i64 n, .func (.func g) #[recv] #[]] w fun e w' => ∃ G R, e = .returned (.slice (some ⟨G, 0, none⟩) n n) ∧ ∃ x : Ext w, w' = x.u ∧ Om w.heap.size x.u G n R (fun i j => gt (Lf i) j) := by
  go_enter Try.func39, Try.ntmps39
  go_wp2_with (first | (go_at_call 37; refine (blank_c n _ h6).mono ?_; rintro e w' ⟨G, R, rfl, x, rfl, hO⟩; have hm0 := x.h; generalize x.u = W0 at *; clear x))
  go_loopw [12] (fun i wr => ∃ k : Nat, k ≤ n ∧ i = .int .i64 k ∧ Om w.heap.size wr G n R (fun i j => if i < k then gt (Lf i) j else 0) ∧ Mr w wr) (fun i _ => (n - (intOf i).toNat))
  case atStart => exact ⟨0, by omega, rfl, hO.congr (fun i j _ _ => by rw [if_neg (by omega)]), hm0⟩
  case round =>
    clear hO hm0
    obtain ⟨k, hk, rfl, hO, hm⟩ := hrel
    have hcall := hc
    clear hc
    by_cases hlt : k < n
    · have hlt' : (k : Int) < n := by omega
      obtain ⟨hg, hRk, hRl, hcl⟩ := hO.at' k hlt
      go_wp2_with (first | (go_at_fn g; refine (hcall wr hm k hlt).mono ?_; rintro e w' ⟨ra, rc, rfl, x, rfl, hI⟩; have hm1 := hm.trans x.h; have hO1 := hO.mr x.h; generalize x.u = W1 at *; clear x; obtain ⟨b, o, rfl, hsrc⟩ := is_src hI (by have := hl k hlt; omega); obtain ⟨W2, hcp, hO2, hB2⟩ := om_copy (rc := rc) hO1 k hlt (Lf k) (hl k hlt) hm1.below hsrc; clear hO1 hsrc hI))
      go_roundw
      case rel => exact ⟨k + 1, by omega, by go_num, hO2.congr (fun i j _ _ => by by_cases e : i = k; (subst e; rw [if_pos rfl, if_pos (by omega)]); (rw [if_neg e]; by_cases l : i < k; (rw [if_pos l, if_pos (by omega)]); rw [if_neg l, if_neg (by omega)])), ⟨hB2⟩⟩
      case measure => simp [intOf]; omega
    · obtain rfl : k = n := by omega
      have hD := hO.congr (G := fun i j => gt (Lf i) j) (fun i j hi _ => by rw [if_pos hi])
      clear hO hcall
      go_wp2
      go_ret
      exact ⟨_, _, rfl, ⟨_, hm⟩, rfl, hD⟩
end Ma
end Go.Proofs.Ytpammdogkkipbaa
