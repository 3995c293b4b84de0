/- The contracts of package solve, first part: what gives up, and what catches it; numbers by calls. -/
import Derived.Test.YtpammdogkkipbaaMatC0
import Derived.Test.YtpammdogkkipbaaSolveM
import Derived.Test.YtpammdogkkipbaaScaleM
import Derived.Test.YtpammdogkkipbaaSumM
import Derived.Deep.RegionHeld3
import Derived.Shelf.Abstract
import Derived.Defers
import Derived.Recover
import Derived.WalkLawsBesides
import Derived.Laws.Pointers
namespace Go.Proofs.Ytpammdogkkipbaa
open Go.ChangeShapes Go.WideShapes Go.ChangeAt Go.RowKit
open Go.Proofs.Ytpammdogkkipbaa.Fx Go.Proofs.Ytpammdogkkipbaa.Wd Go.Proofs.Ytpammdogkkipbaa.Sc Go.Proofs.Ytpammdogkkipbaa.Sl Go.Proofs.Ytpammdogkkipbaa.Sm
set_option linter.unusedVariables false
attribute [local go_sem] Ext.cell Ext.froz Ext.lt Ext.lt1 Ext.lt2 Ext.lt3 Ext.all Ext.set_u drew_heap setCell_size Ext.set_size
namespace Sv
open Ma
/-- It gives up. -/
def Lost (e : Ending) : Prop := ∃ u pv, e = .panicked [{ v := .iface u pv, recovered := false }]
/-- A call that answers v, or gives up where f is true; it lays memory alone. -/
def Giv (P : Program) (g : FuncId) (args : Array Value) (w : World) (f : Bool) (v : Value) : Prop := Calls P g args w fun e w' => (∃ x : Ext w, w' = x.u) ∧ ((f = false ∧ e = .returned v) ∨ (f = true ∧ Lost e))
theorem Giv.no {P : Program} {g : FuncId} {args : Array Value} {w : World} {v : Value} (h : Giv P g args w false v) : Calls P g args w fun e w' => e = .returned v ∧ ∃ x : Ext w, w' = x.u :=
  Calls.mono h (fun e w' q => by obtain ⟨hx, ⟨-, he⟩ | ⟨hf, -⟩⟩ := q; exact ⟨he, hx⟩; cases hf)
theorem Giv.yes {P : Program} {g : FuncId} {args : Array Value} {w : World} {v : Value} (h : Giv P g args w true v) : Calls P g args w fun e w' => Lost e ∧ ∃ x : Ext w, w' = x.u :=
  Calls.mono h (fun e w' q => by obtain ⟨hx, ⟨hf, -⟩ | ⟨-, he⟩⟩ := q; cases hf; exact ⟨he, hx⟩)
set_option maxHeartbeats 400000 in
theorem must_y (w : World) : Calls Try.prog 47 #[.bool true] w fun e w' => e = .returned (.tuple #[]) ∧ w' = w := by
  go_enter Try.func47, Try.ntmps47
  go_wp2
  go_end0
  exact ⟨rfl, rfl⟩
set_option maxHeartbeats 400000 in
theorem must_n (w : World) : Calls Try.prog 47 #[.bool false] w fun e w' => Lost e ∧ w' = w := by
  go_enter Try.func47, Try.ntmps47
  go_wp2
  exact ⟨rfl, ⟨_, _, rfl⟩, rfl⟩
set_option maxHeartbeats 400000 in
theorem sure_y (n : Int) (w : World) : Calls Try.prog 53 #[.int .i64 n, .bool false] w fun e w' => e = .returned (.int .i64 n) ∧ w' = w := by
  go_enter Try.func53, Try.ntmps53
  go_wp2_with (go_at_call 47; refine (must_y _).mono ?_; rintro e w' ⟨rfl, rfl⟩)
  go_ret
  exact ⟨rfl, rfl⟩
set_option maxHeartbeats 400000 in
theorem sure_n (n : Int) (w : World) : Calls Try.prog 53 #[.int .i64 n, .bool true] w fun e w' => Lost e ∧ w' = w := by
  go_enter Try.func53, Try.ntmps53
  go_wp2_with (go_at_call 47; refine (must_n _).mono ?_; rintro e w' ⟨⟨u, pv, rfl⟩, rfl⟩)
  exact ⟨rfl, ⟨_, _, rfl⟩, rfl⟩
set_option maxHeartbeats 400000 in
theorem stimes_c (a b : Int) (w : World) : Giv Try.prog 52 #[.int .i64 a, .int .i64 b] w (tb a b) (.int .i64 (tv a b)) := by
  unfold Giv
  cases hb : tb a b
  · go_enter Try.func52, Try.ntmps52
    go_wp2_with (first | (go_at_call 67; refine (times_c _ _ _).mono ?_; rw [hb]; rintro e w' ⟨rfl, x, rfl⟩) | (go_at_call 53; refine (sure_y _ _).mono ?_; rintro e w' ⟨rfl, rfl⟩))
    go_ret
    exact ⟨Mr.mk' (by repeat (first | (with_reducible exact Mr.refl _) | (with_reducible assumption) | (with_reducible apply Mr.drew) | (with_reducible apply Mr.alloc) | (with_reducible apply Mr.ext) | (with_reducible refine Mr.setCell ?_ (by first | (simp; done) | (simp; omega) | omega | (refine leOf0 ?_; (repeat (first | (with_reducible exact Mr.refl _) | (with_reducible apply Mr.drew) | (with_reducible apply Mr.alloc) | (with_reducible apply Mr.ext) | (with_reducible refine Mr.setCell ?_ (by first | (simp; done) | (simp; omega) | omega) _))); done) | (refine leOf ?_; (repeat (first | (with_reducible exact Mr.refl _) | (with_reducible apply Mr.drew) | (with_reducible apply Mr.alloc) | (with_reducible apply Mr.ext) | (with_reducible refine Mr.setCell ?_ (by first | (simp; done) | (simp; omega) | omega) _))); done)) _))), .inl ⟨by trivial, rfl⟩⟩
  · go_enter Try.func52, Try.ntmps52
    go_wp2_with (first | (go_at_call 67; refine (times_c _ _ _).mono ?_; rw [hb]; rintro e w' ⟨rfl, x, rfl⟩) | (go_at_call 53; refine (sure_n _ _).mono ?_; rintro e w' ⟨⟨u, pv, rfl⟩, rfl⟩))
    exact ⟨rfl, Mr.mk' (by repeat (first | (with_reducible exact Mr.refl _) | (with_reducible assumption) | (with_reducible apply Mr.drew) | (with_reducible apply Mr.alloc) | (with_reducible apply Mr.ext) | (with_reducible refine Mr.setCell ?_ (by first | (simp; done) | (simp; omega) | omega | (refine leOf0 ?_; (repeat (first | (with_reducible exact Mr.refl _) | (with_reducible apply Mr.drew) | (with_reducible apply Mr.alloc) | (with_reducible apply Mr.ext) | (with_reducible refine Mr.setCell ?_ (by first | (simp; done) | (simp; omega) | omega) _))); done) | (refine leOf ?_; (repeat (first | (with_reducible exact Mr.refl _) | (with_reducible apply Mr.drew) | (with_reducible apply Mr.alloc) | (with_reducible apply Mr.ext) | (with_reducible refine Mr.setCell ?_ (by first | (simp; done) | (simp; omega) | omega) _))); done)) _))), .inr ⟨by trivial, _, _, rfl⟩⟩
theorem ck_le {l : List Int} {k m : Nat} (h : k ≤ m) (e : ck l k = true) : ck l m = true := by
  unfold ck at *
  rw [List.any_eq_true] at *
  obtain ⟨x, hx, q⟩ := e
  exact ⟨x, (List.take_subset_take_left l h) hx, q⟩
set_option maxHeartbeats 1000000 in
theorem svalues_c {a : Option Addr} {c n : Nat} {l : List Int} (w : World) (h : Is w a c l) (en : l.length = n) : Giv Try.prog 48 #[.slice a n c] w (ck l n) (.tuple #[]) := by
  unfold Giv
  have hn : n ≤ maxLen := by rw [← en]; exact Nat.le_trans h.le h.max
  unfold maxLen at hn
  go_enter Try.func48, Try.ntmps48
  go_wp2
  go_loopw [6] (fun i wr => ∃ k : Nat, k ≤ n ∧ i = .int .i64 k ∧ Hid (ck l k = false) ∧ wr = w) (fun i _ => (n - (intOf i).toNat))
  case atStart => exact ⟨0, by omega, rfl, rfl, rfl⟩
  case round =>
    obtain ⟨k, hk, rfl, HC, rfl⟩ := hrel
    by_cases hlt : k < n
    · have hlt' : (k : Int) < n := by omega
      obtain ⟨b, o, rfl, hbl, hc⟩ := h.num k (by omega)
      have hm := ck_more (l := l) (k := k) (by omega)
      rw [HC.out, Bool.false_or] at hm
      obtain ⟨X, hX⟩ : ∃ X, gt l k = X := ⟨_, rfl⟩
      rw [hX] at hc hm
      cases hb : co X
      · rw [hb] at hm
        have HM : Hid (ck l (k + 1) = false) := hm
        clear hm h
        go_wp2_with (first | (go_at_call 43; refine (clamp_c _ _).mono ?_; rw [hb]; rintro e w' ⟨rfl, rfl⟩) | (go_at_call 53; refine (sure_y _ _).mono ?_; rintro e w' ⟨rfl, rfl⟩))
        go_roundw
        case rel => exact ⟨k + 1, by omega, by go_num, HM, by trivial⟩
        case measure => simp [intOf]; omega
      · rw [hb] at hm
        have HM : Hid (ck l n = true) := ck_le (by omega) hm
        clear hm h
        go_wp2_with (first | (go_at_call 43; refine (clamp_c _ _).mono ?_; rw [hb]; rintro e w' ⟨rfl, rfl⟩) | (go_at_call 53; refine (sure_n _ _).mono ?_; rintro e w' ⟨⟨u, pv, rfl⟩, rfl⟩))
        exact ⟨rfl, ⟨⟨_, Mr.refl _⟩, rfl⟩, .inr ⟨HM.out, _, _, rfl⟩⟩
    · obtain rfl : k = n := by omega
      clear h
      go_wp2
      go_end0
      exact ⟨⟨⟨_, Mr.refl _⟩, rfl⟩, .inl ⟨HC.out, rfl⟩⟩
/-- A number less others, one by one, and whether something gave up. -/
def gr (n : Int) (v : Nat → Int) : Nat → Int
  | 0 => n
  | k + 1 => sv (gr n v k) (v k)
def gf (n : Int) (v : Nat → Int) (b : Nat → Bool) : Nat → Bool
  | 0 => false
  | k + 1 => gf n v b k || (b k || so (gr n v k) (v k))
theorem gf_le {n : Int} {v : Nat → Int} {b : Nat → Bool} {k m : Nat} (h : k ≤ m) (e : gf n v b k = true) : gf n v b m = true := by
  induction m with
  | zero => obtain rfl : k = 0 := (by omega); exact e
  | succ m ih =>
    by_cases l : k = m + 1
    · subst l; exact e
    · simp only [gf]; rw [ih (by omega), Bool.true_or]
set_option maxHeartbeats 1000000 in
theorem sless_c (g : Nat) (cap : Array Value) (v : Nat → Int) (b : Nat → Bool) (n first last : Int) (m : Nat) (h1 : 0 ≤ first) (h2 : last = first + m) (h3 : last ≤ 6) (w : World) (eg : ∀ args W, (callFunc g args).run Try.prog W = .ok (.enter g args) W)
    (hg : ∀ k, k < m → ∀ x : Ext w, Giv Try.prog g (#[.int .i64 (first + k)] ++ cap) x.u (b k) (.int .i64 (v k))) :
    Giv Try.prog 50 #[.int .i64 n, .int .i64 first, .int .i64 last, .func (.func g) #[] cap] w (gf n v b m) (.int .i64 (gr n v m)) := by
  unfold Giv
  have H2 : Hid (last = first + (m : Int)) := h2
  clear h2
  go_enter Try.func50, Try.ntmps50
  go_wp2
  go_loopw [0, 9] (fun u i wr => ∃ k : Nat, k ≤ m ∧ i = .int .i64 (first + k) ∧ u = .int .i64 (gr n v k) ∧ Hid (gf n v b k = false) ∧ Mr w wr) (fun _ i _ => (last - intOf i).toNat)
  case atStart => exact ⟨0, by omega, by go_num, rfl, rfl, (by repeat (first | (with_reducible exact Mr.refl _) | (with_reducible assumption) | (with_reducible apply Mr.drew) | (with_reducible apply Mr.alloc) | (with_reducible apply Mr.ext) | (with_reducible refine Mr.setCell ?_ (by first | (simp; done) | (simp; omega) | omega | (refine leOf0 ?_; (repeat (first | (with_reducible exact Mr.refl _) | (with_reducible apply Mr.drew) | (with_reducible apply Mr.alloc) | (with_reducible apply Mr.ext) | (with_reducible refine Mr.setCell ?_ (by first | (simp; done) | (simp; omega) | omega) _))); done) | (refine leOf ?_; (repeat (first | (with_reducible exact Mr.refl _) | (with_reducible apply Mr.drew) | (with_reducible apply Mr.alloc) | (with_reducible apply Mr.ext) | (with_reducible refine Mr.setCell ?_ (by first | (simp; done) | (simp; omega) | omega) _))); done)) _)))⟩
  case round =>
    obtain ⟨k, hk, rfl, rfl, HF, hm⟩ := hrel
    by_cases hlt : k < m
    · have hlt' : first + (k : Int) < last := by have := H2.out; omega
      have hk6 : (k : Int) < 6 := by omega
      have hcall := hg k hlt ⟨wr, hm⟩
      have hF : gf n v b (k + 1) = (b k || so (gr n v k) (v k)) := by simp only [gf]; rw [HF.out, Bool.false_or]
      have hR : gr n v (k + 1) = sv (gr n v k) (v k) := rfl
      obtain ⟨V, hV⟩ : ∃ V, v k = V := ⟨_, rfl⟩
      obtain ⟨N, hN⟩ : ∃ N, gr n v k = N := ⟨_, rfl⟩
      rw [hV] at hcall hF hR
      rw [hN] at hF hR ⊢
      clear hV hN
      cases hb : b k
      · rw [hb] at hcall hF
        rw [Bool.false_or] at hF
        have hc := Giv.no hcall
        clear hcall hb
        cases hs : so N V
        · rw [hs] at hF
          have HF2 : Hid (gf n v b (k + 1) = false) := hF
          have HR2 : Hid (gr n v (k + 1) = sv N V) := hR
          clear hF hR hg
          go_wp2_with (first | (go_at_fn g; refine hc.mono ?_; rintro e w' ⟨rfl, x, rfl⟩) | (go_at_call 66; refine (sub_c _ _ _).mono ?_; rw [hs]; rintro e w' ⟨rfl, rfl⟩) | (go_at_call 53; refine (sure_y _ _).mono ?_; rintro e w' ⟨rfl, rfl⟩))
          go_roundw
          case rel => exact ⟨k + 1, by omega, by go_num, by rw [HR2.out], HF2, (by repeat (first | (with_reducible exact Mr.refl _) | (with_reducible assumption) | (with_reducible apply Mr.drew) | (with_reducible apply Mr.alloc) | (with_reducible apply Mr.ext) | (with_reducible refine Mr.setCell ?_ (by first | (simp; done) | (simp; omega) | omega | (refine leOf0 ?_; (repeat (first | (with_reducible exact Mr.refl _) | (with_reducible apply Mr.drew) | (with_reducible apply Mr.alloc) | (with_reducible apply Mr.ext) | (with_reducible refine Mr.setCell ?_ (by first | (simp; done) | (simp; omega) | omega) _))); done) | (refine leOf ?_; (repeat (first | (with_reducible exact Mr.refl _) | (with_reducible apply Mr.drew) | (with_reducible apply Mr.alloc) | (with_reducible apply Mr.ext) | (with_reducible refine Mr.setCell ?_ (by first | (simp; done) | (simp; omega) | omega) _))); done)) _)))⟩
          case measure => (have := H2.out; simp [intOf]; omega)
        · rw [hs] at hF
          have HF2 : Hid (gf n v b m = true) := gf_le (by omega) hF
          clear hF hR hg
          go_wp2_with (first | (go_at_fn g; refine hc.mono ?_; rintro e w' ⟨rfl, x, rfl⟩) | (go_at_call 66; refine (sub_c _ _ _).mono ?_; rw [hs]; rintro e w' ⟨rfl, rfl⟩) | (go_at_call 53; refine (sure_n _ _).mono ?_; rintro e w' ⟨⟨u, pv, rfl⟩, rfl⟩))
          exact ⟨rfl, Mr.mk' (by repeat (first | (with_reducible exact Mr.refl _) | (with_reducible assumption) | (with_reducible apply Mr.drew) | (with_reducible apply Mr.alloc) | (with_reducible apply Mr.ext) | (with_reducible refine Mr.setCell ?_ (by first | (simp; done) | (simp; omega) | omega | (refine leOf0 ?_; (repeat (first | (with_reducible exact Mr.refl _) | (with_reducible apply Mr.drew) | (with_reducible apply Mr.alloc) | (with_reducible apply Mr.ext) | (with_reducible refine Mr.setCell ?_ (by first | (simp; done) | (simp; omega) | omega) _))); done) | (refine leOf ?_; (repeat (first | (with_reducible exact Mr.refl _) | (with_reducible apply Mr.drew) | (with_reducible apply Mr.alloc) | (with_reducible apply Mr.ext) | (with_reducible refine Mr.setCell ?_ (by first | (simp; done) | (simp; omega) | omega) _))); done)) _))), .inr ⟨HF2.out, _, _, rfl⟩⟩
      · rw [hb] at hcall hF
        rw [Bool.true_or] at hF
        have hc := Giv.yes hcall
        have HF2 : Hid (gf n v b m = true) := gf_le (by omega) hF
        clear hcall hb hF hR hg
        go_wp2_with (first | (go_at_fn g; refine hc.mono ?_; rintro e w' ⟨⟨u, pv, rfl⟩, x, rfl⟩))
        exact ⟨rfl, Mr.mk' (by repeat (first | (with_reducible exact Mr.refl _) | (with_reducible assumption) | (with_reducible apply Mr.drew) | (with_reducible apply Mr.alloc) | (with_reducible apply Mr.ext) | (with_reducible refine Mr.setCell ?_ (by first | (simp; done) | (simp; omega) | omega | (refine leOf0 ?_; (repeat (first | (with_reducible exact Mr.refl _) | (with_reducible apply Mr.drew) | (with_reducible apply Mr.alloc) | (with_reducible apply Mr.ext) | (with_reducible refine Mr.setCell ?_ (by first | (simp; done) | (simp; omega) | omega) _))); done) | (refine leOf ?_; (repeat (first | (with_reducible exact Mr.refl _) | (with_reducible apply Mr.drew) | (with_reducible apply Mr.alloc) | (with_reducible apply Mr.ext) | (with_reducible refine Mr.setCell ?_ (by first | (simp; done) | (simp; omega) | omega) _))); done)) _))), .inr ⟨HF2.out, _, _, rfl⟩⟩
    · obtain rfl : k = m := by omega
      have hge : ¬ first + (k : Int) < last := by have := H2.out; omega
      clear hg
      obtain ⟨N, hN⟩ : ∃ N, gr n v k = N := ⟨_, rfl⟩
      rw [hN]
      replace hN : Hid (gr n v k = N) := hN
      go_wp2
      go_ret
      exact ⟨Mr.mk' (by repeat (first | (with_reducible exact Mr.refl _) | (with_reducible assumption) | (with_reducible apply Mr.drew) | (with_reducible apply Mr.alloc) | (with_reducible apply Mr.ext) | (with_reducible refine Mr.setCell ?_ (by first | (simp; done) | (simp; omega) | omega | (refine leOf0 ?_; (repeat (first | (with_reducible exact Mr.refl _) | (with_reducible apply Mr.drew) | (with_reducible apply Mr.alloc) | (with_reducible apply Mr.ext) | (with_reducible refine Mr.setCell ?_ (by first | (simp; done) | (simp; omega) | omega) _))); done) | (refine leOf ?_; (repeat (first | (with_reducible exact Mr.refl _) | (with_reducible apply Mr.drew) | (with_reducible apply Mr.alloc) | (with_reducible apply Mr.ext) | (with_reducible refine Mr.setCell ?_ (by first | (simp; done) | (simp; omega) | omega) _))); done)) _))), .inl ⟨HF.out, by rw [hN.out]; rfl⟩⟩
theorem catch_n (p : Addr) (z : Value) (u : TypeId) (pv : Value) (older : List PanicEntry) (w : World) (hc : w.cell? p = some z) (hz : w.frozen? p = false) :
    CallsD Try.prog 46 #[.pointer (some p)] (.panicking ({ v := .iface u pv, recovered := false } :: older)) w fun e u' w' =>
      e = .returned (.tuple #[]) ∧ u' = .panicking ({ v := .iface u pv, recovered := true } :: older) ∧ w' = w.setCell p (.bool false) := by
  refine callsD_of_wpS Try.func46 rfl fun c₀ cs hu => ?_
  apply wpS_region
  simp [wpOpsS, go_sem, recoverD, hu, Try.ntmps46, hc, hz, bodyPostS, results, Try.results46]
theorem catch_y (p : Addr) (z : Value) (w : World) (hc : w.cell? p = some z) (hz : w.frozen? p = false) :
    CallsD Try.prog 46 #[.pointer (some p)] .returning w fun e u' w' => e = .returned (.tuple #[]) ∧ u' = .returning ∧ w' = w.setCell p (.bool true) := by
  refine callsD_of_wpS Try.func46 rfl fun c₀ cs hu => ?_
  apply wpS_region
  simp [wpOpsS, go_sem, recoverD, hu, Try.ntmps46, hc, hz, bodyPostS, results, Try.results46]
  cases c₀; cases hu; rfl
/-- Work comes to its end: what it has done stands; told by true. -/
theorem ends_y (g : Nat) (cap : Array Value) (w : World) (K : World → Prop) (eg : ∀ args W, (callFunc g args).run Try.prog W = .ok (.enter g args) W)
    (hg : Calls Try.prog g cap (w.alloc (.cells #[.bool false] 4)) fun e w' => e = .returned (.tuple #[]) ∧ K w')
    (hK : ∀ W, K W → (∃ z, W.cell? ⟨w.heap.size, 0, none⟩ = some z) ∧ W.frozen? ⟨w.heap.size, 0, none⟩ = false) :
    Calls Try.prog 22 #[.func (.func g) #[] cap] w fun e w' => e = .returned (.bool true) ∧ ∃ W, K W ∧ w' = W.setCell ⟨w.heap.size, 0, none⟩ (.bool true) := by
  have hmf : ∀ (fn : Fn) (first cap : Array Value) (w : World), (Instr.makeFunc fn first cap).run Try.prog w = .ok (.func fn first cap) w := fun _ _ _ _ => rfl
  go_enter_defers Try.func22, Try.ntmps22
  go_wp2
  refine hg.mono ?_
  rintro e W ⟨rfl, hk⟩
  obtain ⟨⟨z, hc⟩, hz⟩ := hK W hk
  clear hg hK
  go_wp2
  refine leaves_cons (f := 46) (args := #[.pointer (some ⟨w.heap.size, 0, none⟩)]) (by simp) (by simp [go_sem]) ?_
  refine (catch_y ⟨w.heap.size, 0, none⟩ z W hc hz).mono ?_
  rintro e u' w'' ⟨rfl, rfl, rfl⟩
  have hs : (W.setCell ⟨w.heap.size, 0, none⟩ (.bool true)).cell? ⟨w.heap.size, 0, none⟩ = some (.bool true) := World.cell?_setCell_same' _ _ _ (by rw [hc]; rfl)
  simp [Leaves, settle, results, Try.results22, go_sem, hs]
  exact ⟨W, hk, rfl⟩
/-- Work gives up: what it has laid stands; told by false. -/
theorem ends_n (g : Nat) (cap : Array Value) (w : World) (K : World → Prop) (eg : ∀ args W, (callFunc g args).run Try.prog W = .ok (.enter g args) W)
    (hg : Calls Try.prog g cap (w.alloc (.cells #[.bool false] 4)) fun e w' => Lost e ∧ K w')
    (hK : ∀ W, K W → (∃ z, W.cell? ⟨w.heap.size, 0, none⟩ = some z) ∧ W.frozen? ⟨w.heap.size, 0, none⟩ = false) :
    Calls Try.prog 22 #[.func (.func g) #[] cap] w fun e w' => e = .returned (.bool false) ∧ ∃ W, K W ∧ w' = W.setCell ⟨w.heap.size, 0, none⟩ (.bool false) := by
  have hmf : ∀ (fn : Fn) (first cap : Array Value) (w : World), (Instr.makeFunc fn first cap).run Try.prog w = .ok (.func fn first cap) w := fun _ _ _ _ => rfl
  go_enter_defers Try.func22, Try.ntmps22
  go_wp2
  refine hg.mono ?_
  rintro e W ⟨⟨u, pv, rfl⟩, hk⟩
  obtain ⟨⟨z, hc⟩, hz⟩ := hK W hk
  clear hg hK
  refine leaves_cons (f := 46) (args := #[.pointer (some ⟨w.heap.size, 0, none⟩)]) (by simp) (by simp [go_sem]) ?_
  refine (catch_n ⟨w.heap.size, 0, none⟩ z u pv _ W hc hz).mono ?_
  rintro e u' w'' ⟨rfl, rfl, rfl⟩
  have hs : (W.setCell ⟨w.heap.size, 0, none⟩ (.bool false)).cell? ⟨w.heap.size, 0, none⟩ = some (.bool false) := World.cell?_setCell_same' _ _ _ (by rw [hc]; rfl)
  simp [Leaves, settle, results, Try.results22, go_sem, hs]
  exact ⟨W, hk, rfl⟩
theorem stimes_y (a b : Int) (w : World) (h : tb a b = false) : Calls Try.prog 52 #[.int .i64 a, .int .i64 b] w fun e w' => e = .returned (.int .i64 (tv a b)) ∧ ∃ x : Ext w, w' = x.u := by
  have := stimes_c a b w
  rw [h] at this
  exact this.no
theorem stimes_n (a b : Int) (w : World) (h : tb a b = true) : Calls Try.prog 52 #[.int .i64 a, .int .i64 b] w fun e w' => Lost e ∧ ∃ x : Ext w, w' = x.u := by
  have := stimes_c a b w
  rw [h] at this
  exact this.yes
end Sv
end Go.Proofs.Ytpammdogkkipbaa
