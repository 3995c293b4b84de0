/- Sums over lists: the mathematics alone. -/
import Derived.Test.YtpammdogkkipbaaRefC11
import Derived.Deep.AppendLies
import Derived.Laws.AppendOwnNone
namespace Go.Proofs.Ytpammdogkkipbaa
open Go.RowKit
open Go.Proofs.Ytpammdogkkipbaa.Fx Go.Proofs.Ytpammdogkkipbaa.Wd Go.Proofs.Ytpammdogkkipbaa.Sc Go.Proofs.Ytpammdogkkipbaa.Rt
namespace Sm
open Sl
theorem gt_cons_zero (x : Int) (l : List Int) : gt (x :: l) 0 = x := rfl
theorem gt_cons_succ (x : Int) (l : List Int) (j : Nat) : gt (x :: l) (j + 1) = gt l j := rfl
theorem ws_shift (f : Nat → Int) (k : Nat) : ws f (k + 1) = f 0 + ws (fun j => f (j + 1)) k := by
  induction k with
  | zero => simp [ws]
  | succ k ih => rw [ws, ih, ws]; omega
theorem ws_gt (l : List Int) : ws (gt l) l.length = l.sum := by
  induction l with
  | nil => rfl
  | cons x l ih =>
    rw [List.length_cons, ws_shift, List.sum_cons]
    have e : (fun j => gt (x :: l) (j + 1)) = gt l := by funext j; rfl
    rw [e, ih, gt_cons_zero]
theorem ws_zip (l m : List Int) : ws (fun j => ml (gt l j) (gt m j)) (min l.length m.length) = (List.zipWith ml l m).sum := by
  induction l generalizing m with
  | nil => simp [ws]
  | cons x l ih =>
    cases m with
    | nil => simp [ws]
    | cons y m =>
      rw [List.length_cons, List.length_cons, show min (l.length + 1) (m.length + 1) = min l.length m.length + 1 by omega, ws_shift, List.zipWith_cons_cons, List.sum_cons]
      have e : (fun j => ml (gt (x :: l) (j + 1)) (gt (y :: m) (j + 1))) = fun j => ml (gt l j) (gt m j) := by funext j; rfl
      rw [e, ih]; rfl
theorem tot_eq (l : List Int) : tot l = ((l.take 64).map cl).sum := ws_gt _
theorem ml_cl2 (a b : Int) : ml (cl a) (cl b) = ml a b := ml_clcl a b
theorem zip_map (l m : List Int) : List.zipWith ml (l.map cl) (m.map cl) = List.zipWith ml l m := by
  induction l generalizing m with
  | nil => simp
  | cons x l ih =>
    cases m with
    | nil => simp
    | cons y m => simp only [List.map_cons, List.zipWith_cons_cons, ih, ml_cl2]
theorem zip_take (l m : List Int) (k : Nat) (g : k = min l.length m.length) : List.zipWith ml (l.take k) (m.take k) = List.zipWith ml l m := by
  rw [← List.take_zipWith, List.take_of_length_le]
  rw [List.length_zipWith]; omega
theorem dz_eq (l m : List Int) : dz l m = ((List.zipWith ml l m).take 64).sum := by
  unfold dz dp
  rw [ws_zip]
  unfold vk
  rw [zip_map, ← List.take_zipWith, zip_take l m (kk l m) rfl]
theorem dp_self (l : List Int) : dp (vk l 64) (vk l 64) = ((l.take 64).map fun x => ml x x).sum := by
  unfold dp
  rw [ws_zip]
  unfold vk
  rw [zip_map, List.zipWith_self]
theorem sum_rev (l : List Int) : l.reverse.sum = l.sum := by
  induction l with
  | nil => rfl
  | cons x l ih => rw [List.reverse_cons, List.sum_append, ih]; simp [List.sum_cons]; omega
theorem ml_comm (a b : Int) : ml a b = ml b a := by unfold ml; exact Int.mul_comm _ _
theorem zip_comm (l m : List Int) : List.zipWith ml l m = List.zipWith ml m l := by
  rw [List.zipWith_comm]
  congr 1
  funext a b; exact ml_comm b a
/-- Turned round. -/
theorem tot_rev {l : List Int} (h : l.length ≤ 64) : tot l.reverse = tot l := by
  rw [tot_eq, tot_eq, List.take_of_length_le (by rw [List.length_reverse]; exact h), List.take_of_length_le h, List.map_reverse, sum_rev]
theorem ck_rev {l : List Int} (h : l.length ≤ 64) : ck l.reverse 64 = ck l 64 := by
  unfold ck
  rw [List.take_of_length_le (by rw [List.length_reverse]; exact h), List.take_of_length_le h, List.any_reverse]
theorem vk_rev_len {l : List Int} : (vk l.reverse 64).length = (vk l 64).length := by
  unfold vk; rw [List.length_map, List.length_map, List.length_take, List.length_take, List.length_reverse]
theorem mn_rev {l : List Int} (h : l.length ≤ 64) : mn l.reverse = mn l := by unfold mn; rw [vk_rev_len, tot_rev h]
theorem dz_rev {l m : List Int} (h : l.length ≤ 64) (e : l.length = m.length) : dz m.reverse l.reverse = dz l m := by
  rw [dz_eq, dz_eq, List.take_of_length_le (by rw [List.length_zipWith, List.length_reverse]; omega), List.take_of_length_le (by rw [List.length_zipWith]; omega), ← List.reverse_zipWith e.symm, sum_rev, zip_comm]
theorem dp_rev {l : List Int} (h : l.length ≤ 64) : dp (vk l.reverse 64) (vk l.reverse 64) = dp (vk l 64) (vk l 64) := by
  rw [dp_self, dp_self, List.take_of_length_le (by rw [List.length_reverse]; exact h), List.take_of_length_le h, List.map_reverse, sum_rev]
/-! Parts. -/
theorem tot_parts {l : List Int} (h : l.length ≤ 64) (k : Nat) : tot (l.take k) + tot (l.drop k) = tot l := by
  rw [tot_eq, tot_eq, tot_eq, List.take_of_length_le (l := l) h, List.take_of_length_le (l := l.take k) (by rw [List.length_take]; omega), List.take_of_length_le (l := l.drop k) (by rw [List.length_drop]; omega), ← List.sum_append, ← List.map_append, List.take_append_drop]
theorem ck_parts {l : List Int} (h : l.length ≤ 64) (k : Nat) : (ck (l.take k) 64 || ck (l.drop k) 64) = ck l 64 := by
  unfold ck
  rw [List.take_of_length_le (l := l) h, List.take_of_length_le (l := l.take k) (by rw [List.length_take]; omega), List.take_of_length_le (l := l.drop k) (by rw [List.length_drop]; omega), ← List.any_append, List.take_append_drop]
theorem ones_sum (l : List Int) : (List.zipWith ml l (List.replicate l.length 4294967296)).sum = 4294967296 * (l.map cl).sum := by
  induction l with
  | nil => rfl
  | cons x l ih =>
    rw [List.length_cons, List.replicate_succ, List.zipWith_cons_cons, List.sum_cons, ih, List.map_cons, List.sum_cons, Int.mul_add]
    unfold ml
    rw [show cl 4294967296 = 4294967296 by decide, Int.mul_comm (cl x)]
theorem dz_ones {l : List Int} (h : l.length ≤ 64) : dz l (List.replicate l.length 4294967296) = 4294967296 * tot l ∧ rn (4294967296 * tot l) = tot l := by
  constructor
  · rw [dz_eq, tot_eq, List.take_of_length_le (by rw [List.length_zipWith, List.length_replicate]; omega), List.take_of_length_le h, ones_sum]
  · unfold rn; omega
theorem ck_ones (n : Nat) : ck (List.replicate n 4294967296) 64 = false := by
  unfold ck
  rw [List.take_replicate, List.any_replicate]
  split
  · rfl
  · decide
theorem sum_between {L H : Int} (l : List Int) (h : ∀ x ∈ l, L ≤ x ∧ x ≤ H) : L * l.length ≤ l.sum ∧ l.sum ≤ H * l.length := by
  induction l with
  | nil => simp
  | cons x l ih =>
    have h1 := h x (by simp)
    have h2 := ih (fun y hy => h y (by simp [hy]))
    rw [List.sum_cons, List.length_cons]
    push_cast
    rw [Int.mul_add, Int.mul_add, Int.mul_one, Int.mul_one]
    omega
/-! The greatest product of two lists. -/
theorem cs_step {S A B x y : Int} (hA : 0 ≤ A) (hB : 0 ≤ B) (h : S * S ≤ A * B) : (S + x * y) * (S + x * y) ≤ (A + x * x) * (B + y * y) := by
  have h1 : 2 * (S * (x * y)) ≤ A * (y * y) + B * (x * x) := by
    have p1 : 0 ≤ A * (y * y) := Int.mul_nonneg hA (sq_nn y)
    have p2 : 0 ≤ B * (x * x) := Int.mul_nonneg hB (sq_nn x)
    rcases Int.lt_or_le (A * (y * y) + B * (x * x)) (2 * (S * (x * y))) with g | g
    · exfalso
      have q := sq_lt (a := A * (y * y) + B * (x * x)) (by omega) g
      have e1 : 2 * (S * (x * y)) * (2 * (S * (x * y))) = 4 * ((S * S) * ((x * x) * (y * y))) := by grind
      have e2 : (A * (y * y) + B * (x * x)) * (A * (y * y) + B * (x * x)) = (A * (y * y) - B * (x * x)) * (A * (y * y) - B * (x * x)) + 4 * ((A * B) * ((x * x) * (y * y))) := by grind
      have e3 := sq_nn (A * (y * y) - B * (x * x))
      have e4 : (S * S) * ((x * x) * (y * y)) ≤ (A * B) * ((x * x) * (y * y)) := Int.mul_le_mul_of_nonneg_right h (Int.mul_nonneg (sq_nn x) (sq_nn y))
      omega
    · exact g
  have e1 : (S + x * y) * (S + x * y) = S * S + 2 * (S * (x * y)) + (x * x) * (y * y) := by grind
  have e2 : (A + x * x) * (B + y * y) = A * B + (A * (y * y) + B * (x * x)) + (x * x) * (y * y) := by grind
  omega
theorem sq_sum_nn (l : List Int) : 0 ≤ (l.map fun x => ml x x).sum := by
  induction l with
  | nil => simp
  | cons x l ih => rw [List.map_cons, List.sum_cons]; have : 0 ≤ ml x x := ml_nn x; omega
theorem cs (l m : List Int) : (List.zipWith ml l m).sum * (List.zipWith ml l m).sum ≤ (l.map fun x => ml x x).sum * (m.map fun x => ml x x).sum := by
  induction l generalizing m with
  | nil => simp
  | cons x l ih =>
    cases m with
    | nil => simp
    | cons y m =>
      rw [List.zipWith_cons_cons, List.sum_cons, List.map_cons, List.map_cons, List.sum_cons, List.sum_cons, Int.add_comm (ml x y), Int.add_comm (ml x x), Int.add_comm (ml y y)]
      exact cs_step (sq_sum_nn l) (sq_sum_nn m) (ih m)
end Sm
end Go.Proofs.Ytpammdogkkipbaa
/- Norms and products of lists: what SumNorm asks. -/
namespace Go.Proofs.Ytpammdogkkipbaa
open Go.Proofs.Ytpammdogkkipbaa.Fx Go.Proofs.Ytpammdogkkipbaa.Wd Go.Proofs.Ytpammdogkkipbaa.Sc Go.Proofs.Ytpammdogkkipbaa.Rt
namespace Sm
open Sl
/-- The sum of the squares. -/
def sq (l : List Int) : Int := (l.map fun x => ml x x).sum
theorem dp_sq {l : List Int} (h : l.length ≤ 64) : dp (vk l 64) (vk l 64) = sq l := by rw [dp_self, List.take_of_length_le h]; rfl
theorem sq_nn' (l : List Int) : 0 ≤ sq l := sq_sum_nn l
theorem sq_cons (x : Int) (l : List Int) : sq (x :: l) = ab x * ab x + sq l := by unfold sq; rw [List.map_cons, List.sum_cons, ml_ab]
theorem sq_mem {l : List Int} {x : Int} (h : x ∈ l) : ab x * ab x ≤ sq l := by
  induction l with
  | nil => simp at h
  | cons y l ih =>
    rw [sq_cons]
    have h1 := sq_nn' l
    have h2 := Rt.sq_nn (ab y)
    rcases List.mem_cons.1 h with rfl | g
    · omega
    · have := ih g; omega
theorem norm_ge {l : List Int} {x : Int} (h : x ∈ l) : ab x ≤ sr (sq l) := by
  have ha := ab_bd x
  have h1 : sr (ab x * ab x) = ab x := in_hit ha.1 ha.2 rfl
  have m1 := sr_mono (sq_mem h)
  omega
theorem abs_nn (l : List Int) : 0 ≤ (l.map ab).sum := by
  induction l with
  | nil => simp
  | cons x l ih => rw [List.map_cons, List.sum_cons]; have := ab_bd x; omega
theorem abs_sq (l : List Int) : sq l ≤ (l.map ab).sum * (l.map ab).sum := by
  induction l with
  | nil => simp [sq]
  | cons x l ih =>
    rw [sq_cons, List.map_cons, List.sum_cons]
    have h1 := abs_nn l
    have h2 := (ab_bd x).1
    generalize (l.map ab).sum = s at *
    have e : (ab x + s) * (ab x + s) = ab x * ab x + s * s + 2 * (ab x * s) := by grind
    have := Int.mul_nonneg h2 h1
    omega
theorem cl_ab (x : Int) : cl (ab x) = ab x := by have := ab_bd x; exact (cl_in (by omega) this.2).1
theorem tot_abs {l : List Int} (h : l.length ≤ 64) : tot (l.map ab) = (l.map ab).sum := by
  rw [tot_eq, List.take_of_length_le (by rw [List.length_map]; exact h), List.map_map]
  congr 1
  apply List.map_congr_left
  intro x _
  exact cl_ab x
theorem norm_le {l : List Int} (h : l.length ≤ 64) : sr (sq l) ≤ cl (tot (l.map ab)) := by
  rw [tot_abs h]
  have h1 := abs_sq l
  have h2 := abs_nn l
  have hs := sr_bd (sq l)
  have hq := sr_sq (z := sq l) (sq_nn' l)
  have hl := le_of_sq (a := sr (sq l)) (b := (l.map ab).sum) (by omega) (by omega)
  generalize (l.map ab).sum = t at *
  rcases Int.lt_or_le 288230376151711744 t with g | g
  · rw [(cl_hi g).1]; omega
  · rw [(cl_in (by omega) g).1]; omega
theorem norm_one (x : Int) : sr (dp (vk [x] 64) (vk [x] 64)) = ab x := by
  rw [dp_sq (by simp), sq_cons]
  have ha := ab_bd x
  exact in_hit ha.1 ha.2 (by simp [sq])
theorem zip_cut (l m : List Int) (h : l.length ≤ 64) : List.zipWith ml l m = List.zipWith ml l (m.take 64) := by
  apply List.ext_getElem?
  intro i
  rw [List.getElem?_zipWith, List.getElem?_zipWith]
  by_cases g : i < 64
  · rw [List.getElem?_take_of_lt g]
  · rw [List.getElem?_eq_none (l := l) (by omega)]
theorem dz_cut {l m : List Int} (h : l.length ≤ 64) : dz l m = (List.zipWith ml l (m.take 64)).sum := by
  rw [dz_eq, List.take_of_length_le (by rw [List.length_zipWith]; omega), zip_cut l m h]
theorem dot_norm {l m : List Int} {N M : Int} (h : l.length ≤ 64) (hN : sr (sq l) = N) (hM : sr (sq (m.take 64)) = M) (r1 : ro (sq l) = false) (r2 : ro (sq (m.take 64)) = false) (ht : tb (N + 1) (M + 1) = false) (hc : co (rn (dz l m)) = false) :
    ab (cl (rn (dz l m))) ≤ tv (N + 1) (M + 1) + 1 := by
  have n1 := sr_next r1
  have n2 := sr_next r2
  rw [hN] at n1
  rw [hM] at n2
  have b1 := sr_bd (sq l)
  have b2 := sr_bd (sq (m.take 64))
  rw [hN] at b1
  rw [hM] at b2
  obtain ⟨-, -, e3, -, -⟩ := tv_ok ht
  obtain ⟨c1, c2, c3⟩ := co_false hc
  rw [c3, e3]
  have cs' : dz l m * dz l m ≤ sq l * sq (m.take 64) := by rw [dz_cut h]; exact cs l (m.take 64)
  have q1 := sq_nn' l
  have q2 := sq_nn' (m.take 64)
  generalize sq l = A at *
  generalize sq (m.take 64) = B at *
  generalize dz l m = z at *
  have hW : 0 ≤ (N + 1) * (M + 1) := Int.mul_nonneg (by omega) (by omega)
  have k1 : A * B ≤ ((N + 1) * (N + 1)) * ((M + 1) * (M + 1)) := Int.mul_le_mul (by omega) (by omega) q2 (by have := Rt.sq_nn (N + 1); omega)
  have k2 : ((N + 1) * (N + 1)) * ((M + 1) * (M + 1)) = ((N + 1) * (M + 1)) * ((N + 1) * (M + 1)) := by grind
  generalize (N + 1) * (M + 1) = W at *
  have z1 : z ≤ W := le_of_sq (by omega) (by omega)
  have z2 : -z ≤ W := le_of_sq (by omega) (by rw [Int.neg_mul_neg]; omega)
  have z3 : ab (rn z) = max (rn z) (-rn z) := by unfold ab; rw [c3]
  rw [z3]
  unfold rn
  omega
end Sm
end Go.Proofs.Ytpammdogkkipbaa
/- Lists of integers that come in, pieces of them, and written ones. -/
namespace Go.Proofs.Ytpammdogkkipbaa
open Go.ChangeShapes Go.WideShapes Go.ChangeAt Go.RowKit
open Go.Proofs.Ytpammdogkkipbaa.Fx
/-- What the walk is told of a slice of integers that came in. -/
def IsRow (k : IntKind) (w : World) (a : Option Addr) (len cap : Nat) (zs : List Int) : Prop :=
  (a = none ∧ len = 0 ∧ cap = 0 ∧ zs = []) ∨
  ∃ x, a = some x ∧ len ≤ cap ∧ cap ≤ maxLen ∧ zs.length = cap ∧ (∀ i, i < zs.length → w.cell? (x.add i) = some (.int k (zs.getD i 0))) ∧ ∀ n ∈ zs, (Lit.int k n).wf = true
namespace Sl
theorem spot_none {w : World} {x : Addr} {v : Value} (h : w.cell? x = some v) : x.spot = none ∧ x.block < w.heap.size := by
  unfold World.cell? at h
  cases hb : w.heap[x.block]? with
  | none => simp [hb] at h
  | some o =>
    refine ⟨?_, (Array.getElem?_eq_some_iff.1 hb).1⟩
    cases hs : x.spot with
    | none => rfl
    | some k => cases o <;> simp [hb, hs] at h
theorem of_row {w : World} {a : Option Addr} {n c : Nat} {z : List Int} (h : IsRow .i64 w a n c z) : ∃ l : List Int, l.length = n ∧ Is w a c l := by
  rcases h with ⟨rfl, rfl, rfl, rfl⟩ | ⟨x, rfl, h1, h2, h3, h4, h5⟩
  · exact ⟨[], rfl, by simp, by simp [maxLen], fun _ => rfl, fun j hj => by simp at hj, fun j => by simp [gt]⟩
  · have hl : (z.take n).length = n := by rw [List.length_take]; omega
    refine ⟨z.take n, hl, by omega, h2, fun e => (by cases e), fun j hj => ?_, fun j => ?_⟩
    · rw [hl] at hj ⊢
      have h0 := h4 0 (by omega)
      rw [Addr.add, if_pos rfl] at h0
      obtain ⟨s1, s2⟩ := spot_none h0
      obtain ⟨b, o, s⟩ := x
      simp only at s1 s2
      subst s1
      refine ⟨b, o, rfl, s2, fun i hi => ?_⟩
      have := h4 i (by omega)
      rw [gt_take, if_pos (by omega)]
      rw [show (⟨b, o + i, none⟩ : Addr) = (⟨b, o, none⟩ : Addr).add i by unfold Addr.add; split <;> simp_all]
      exact this
    · rw [gt_take]
      split
      · unfold gt
        by_cases g : j < z.length
        · rw [List.getD_eq_getElem?_getD, List.getElem?_eq_getElem g]
          exact Fx.bd (h5 _ (List.getElem_mem g))
        · rw [List.getD_eq_getElem?_getD, List.getElem?_eq_none (by omega)]
          simp
      · omega
/-- A written list. -/
theorem of_cells {w : World} (xs : List Int) (hb : ∀ j, -9223372036854775808 ≤ gt xs j ∧ gt xs j ≤ 9223372036854775807) (hm : xs.length ≤ maxLen) (vs : Array Value) (hv : vs.toList = xs.map (Value.int .i64)) : Is (w.alloc (.cells vs 3)) (some ⟨w.heap.size, 0, none⟩) xs.length xs :=
  ⟨Nat.le_refl _, hm, fun h => (by cases h), fun j hj => ⟨w.heap.size, 0, rfl, by simp, fun i hi => by
    have e : vs[i]? = some (.int .i64 (gt xs i)) := by
      rw [← Array.getElem?_toList, hv, List.getElem?_map, List.getElem?_eq_getElem hi]
      unfold gt
      rw [List.getD_eq_getElem?_getD, List.getElem?_eq_getElem hi]
      rfl
    have hn : (w.alloc (.cells vs 3)).heap[w.heap.size]? = some (.cells vs 3) := by show (w.heap.push _)[w.heap.size]? = _; simp
    simp only [World.cell?, hn, Nat.zero_add]
    exact e⟩, hb⟩
/-- A piece from some place on. -/
theorem Is.drop {w : World} {b o c : Nat} {l : List Int} (h : Is w (some ⟨b, o, none⟩) c l) (k : Nat) : Is w (some ⟨b, o + k, none⟩) (c - k) (l.drop k) :=
  ⟨by rw [List.length_drop]; have := h.le; omega, by have := h.max; omega, fun e => (by cases e), fun j hj => by
    rw [List.length_drop] at hj ⊢
    obtain ⟨b', o', e, hb, hc⟩ := h.at' (k + j) (by omega)
    simp only [Option.some.injEq, Addr.mk.injEq] at e
    obtain ⟨rfl, rfl, -⟩ := e
    refine ⟨b, o + k, rfl, hb, fun i hi => ?_⟩
    rw [gt_drop, Nat.add_assoc]; exact hc (k + i) (by omega), fun j => by rw [gt_drop]; exact h.bd _⟩
theorem is_nil {w : World} (a : Option Addr) {c : Nat} (hm : c ≤ maxLen) (hn : a = none → c = 0) : Is w a c [] := ⟨by simp, hm, hn, fun j hj => by simp at hj, fun j => by simp [gt]⟩
/-- A piece between two places, as slicing lays it. -/
theorem Is.piece {w : World} {a : Option Addr} {c : Nat} {l : List Int} (h : Is w a c l) {A Z : Nat} (h1 : A ≤ Z) (h2 : Z ≤ l.length) : Is w (if c = A then a else a.map (·.add (A * 1))) (c - A) ((l.take Z).drop A) := by
  have hm := h.max
  have hl := h.le
  by_cases g : A = Z
  · rw [List.drop_eq_nil_of_le (by rw [List.length_take]; omega)]
    refine is_nil _ (by omega) (fun e => ?_)
    split at e
    · have := h.nil e; omega
    · cases a with
      | none => have := h.nil rfl; omega
      | some x => simp at e
  · obtain ⟨b, o, rfl, -, -⟩ := h.at' A (by omega)
    rw [if_neg (by omega)]
    have := (h.take Z).drop A
    rw [Option.map_some, Nat.mul_one]
    rw [show (⟨b, o, none⟩ : Addr).add A = ⟨b, o + A, none⟩ by unfold Addr.add; split <;> simp_all]
    exact this
theorem Is.cells {w W : World} {x : Addr} {c : Nat} {l : List Int} (h : Is w (some x) c l) (hm : Mr w W) (j : Nat) (u : Value) (e : (l.map (Value.int .i64))[j]? = some u) : W.cell? (x.add j) = some u := by
  have hj : j < l.length := by
    have := (List.getElem?_eq_some_iff.1 e).1
    rwa [List.length_map] at this
  obtain ⟨b, o, ex, hb, hc⟩ := h.at' j hj
  obtain rfl : x = ⟨b, o, none⟩ := by simpa using ex
  have h1 := (h.mr hm).at' j hj
  obtain ⟨b', o', ex', hb', hc'⟩ := h1
  simp only [Option.some.injEq, Addr.mk.injEq] at ex'
  obtain ⟨rfl, rfl, -⟩ := ex'
  have h2 := hc' j hj
  rw [show (⟨b, o, none⟩ : Addr).add j = ⟨b, o + j, none⟩ by unfold Addr.add; split <;> simp_all, h2]
  rw [List.getElem?_map, List.getElem?_eq_getElem hj] at e
  unfold gt
  rw [List.getD_eq_getElem?_getD, List.getElem?_eq_getElem hj]
  exact e
end Sl
end Go.Proofs.Ytpammdogkkipbaa
