/- The contracts of package mat, second part: what reckons. -/
import Derived.Test.YtpammdogkkipbaaMatC1
import Derived.Test.YtpammdogkkipbaaMatM
import Derived.Test.YtpammdogkkipbaaSumC1
import Derived.Test.YtpammdogkkipbaaMeanM
namespace Go.Proofs.Ytpammdogkkipbaa
open Go.ChangeShapes Go.WideShapes Go.ChangeAt Go.RowKit Go.Shelf
open Go.Proofs.Ytpammdogkkipbaa.Fx Go.Proofs.Ytpammdogkkipbaa.Sl Go.Proofs.Ytpammdogkkipbaa.Sm Go.Proofs.Ytpammdogkkipbaa.Vc
set_option linter.unusedVariables false
attribute [local go_sem] Ext.cell Ext.froz Ext.lt Ext.lt1 Ext.lt2 Ext.lt3 Ext.all Ext.set_u drew_heap setCell_size Ext.set_size
namespace Ma
theorem dot_n8 {a b : Option Addr} {c d n k : Nat} {l m : List Int} {w : World} (h : Sl.Is w a c l) (g : Sl.Is w b d m) (hn : l.length = n) (hk : m.length = k) :
    Calls Try.prog 63 #[.slice a n c, .slice b k d] w fun e w' => e = .returned (.tuple #[.int .i64 (dv l m), .bool (db l m)]) ∧ ∃ x : Ext w, w' = x.u := by
  subst hn; subst hk; exact dot_c a b c d l m w h g
theorem dv_bd (l m : List Int) : -9223372036854775808 ≤ dv l m ∧ dv l m ≤ 9223372036854775807 := by
  have := cl_bd (Sc.rn (dz l m))
  unfold dv; omega
set_option maxRecDepth 100000 in
set_option maxHeartbeats 2000000 in
/-- The sum of products of each line with a list. -/
theorem dots_c {a b : Option Addr} {c d n m : Nat} {L : List (List Int)} {v : List Int} (w : World) (h : Rs w a c L) (en : L.length = n) (h6 : n ≤ 6) (g : Is w b d v) (em : v.length = m) :
    Calls Try.prog 41 #[.slice a n c, .slice b m d] w fun e w' => ∃ G, e = .returned (.tuple #[.slice (some ⟨G, 0, none⟩) n n, .bool (anyB (fun i => db (rw' L i) v) n)]) ∧ ∃ x : Ext w, w' = x.u ∧ x.u.rowIs G 3 n (fun i => .int .i64 (dv (rw' L i) v)) := by
  have hmk2 := run_make_row' (P := Try.prog) 23 3 (.int .i64 0) 8 Try.underlying23 infoI rfl .i64 .i64 n (by omega) (by omega)
  go_enter Try.func41, Try.ntmps41
  go_wp2
  go_loopw [7, 17] (fun f i wr => ∃ k : Nat, k ≤ n ∧ i = .int .i64 k ∧ f = .bool (anyB (fun i => db (rw' L i) v) k) ∧ wr.rowIs w.heap.size 3 n (fun p => .int .i64 (if p < k then dv (rw' L p) v else 0)) ∧ Mr w wr) (fun _ i _ => (n - (intOf i).toNat))
  case atStart => exact ⟨0, by omega, rfl, by simp [anyB], (World.rowIs_made w (.int .i64 0) n 3).congr (fun i _ => by rw [if_neg (by omega)]), (by repeat (first | (with_reducible exact Mr.refl _) | (with_reducible assumption) | (with_reducible apply Mr.drew) | (with_reducible apply Mr.alloc) | (with_reducible apply Mr.ext) | (with_reducible refine Mr.setCell ?_ (by first | (simp; done) | (simp; omega) | omega | (refine leOf0 ?_; (repeat (first | (with_reducible exact Mr.refl _) | (with_reducible apply Mr.drew) | (with_reducible apply Mr.alloc) | (with_reducible apply Mr.ext) | (with_reducible refine Mr.setCell ?_ (by first | (simp; done) | (simp; omega) | omega) _))); done) | (refine leOf ?_; (repeat (first | (with_reducible exact Mr.refl _) | (with_reducible apply Mr.drew) | (with_reducible apply Mr.alloc) | (with_reducible apply Mr.ext) | (with_reducible refine Mr.setCell ?_ (by first | (simp; done) | (simp; omega) | omega) _))); done)) _)))⟩
  case round =>
    obtain ⟨k, hk, rfl, rfl, hO, hm⟩ := hrel
    by_cases hlt : k < n
    · have hlt' : (k : Int) < n := by omega
      obtain ⟨b1, o1, ra, rc, rfl, hb1, hc1, hI⟩ := (h.mr hm).row k (by omega)
      have hP : ∀ W, Mr wr W → W.rowIs w.heap.size 3 n (fun p => .int .i64 (if p < k then dv (rw' L p) v else 0)) := fun W m => rowIs_mr hO m
      have hN : ∀ W : World, W.rowIs w.heap.size 3 n (fun p => .int .i64 (if p < k then dv (rw' L p) v else 0)) → (W.setCell ⟨w.heap.size, k, none⟩ (.int .i64 (dv (rw' L k) v))).rowIs w.heap.size 3 n (fun p => .int .i64 (if p < k + 1 then dv (rw' L p) v else 0)) := fun W hW => (hW.set k _).congr (fun i hi => by
        by_cases e : i = k
        · subst e; rw [if_pos rfl, if_pos (by omega)]
        · rw [if_neg e]
          by_cases l : i < k
          · rw [if_pos l, if_pos (by omega)]
          · rw [if_neg l, if_neg (by omega)])
      have hF : Hid (anyB (fun i => db (rw' L i) v) (k + 1) = (anyB (fun i => db (rw' L i) v) k || db (rw' L k) v)) := anyB_succ _ _
      obtain ⟨q, hq⟩ : ∃ q, (rw' L k).length = q := ⟨_, rfl⟩
      obtain ⟨X, hX⟩ : ∃ X, dv (rw' L k) v = X := ⟨_, rfl⟩
      obtain ⟨Y, hY⟩ : ∃ Y, db (rw' L k) v = Y := ⟨_, rfl⟩
      rw [hq] at hc1
      rw [hX] at hN
      rw [hY] at hF
      clear hO h
      generalize hFF : anyB (fun i => db (rw' L i) v) k = F at *
      clear hFF
      cases F
      all_goals
        go_wp2_with (first | (go_at_call 63; refine (dot_n8 hI (g.mr hm) hq em).mono ?_; rw [hX, hY]; rintro e w' ⟨rfl, x, rfl⟩; have hm1 := hm.trans x.h; have hP1 := hP _ x.h; generalize x.u = W1 at *; clear x; have hg := hP1.lt; have hfz := hP1.frozen k; have hcl := hP1.cell hlt; have hPs := hN W1 hP1))
        go_roundw
        case rel => exact ⟨k + 1, by omega, by go_num, by rw [hF.out]; simp, hPs, hm1.setCell (by simp) _⟩
        case measure => simp [intOf]; omega
    · obtain rfl : k = n := by omega
      have hD := hO.congr (g := fun i => .int .i64 (dv (rw' L i) v)) (fun i hi => by rw [if_pos hi])
      clear hO h g
      obtain ⟨F, hFe⟩ : ∃ F, anyB (fun i => db (rw' L i) v) k = F := ⟨_, rfl⟩
      rw [hFe]
      replace hFe : Hid (anyB (fun i => db (rw' L i) v) k = F) := hFe
      go_wp2
      go_ret2
      exact ⟨_, by rw [hFe.out]; rfl, ⟨_, hm⟩, rfl, hD⟩
/-- Numbers made place by place: those ahead of row k, place q are done. -/
def dn (f : Nat → Nat → Int) (F : Nat → Nat → Int) (k q : Nat) : Nat → Nat → Int := fun i j => if i < k ∨ (i = k ∧ j < q) then f i j else F i j
theorem dn_step {n : Nat} (f F : Nat → Nat → Int) (k q i j : Nat) : up (dn f F k q) k q (f k q) i j = dn f F k (q + 1) i j := by
  unfold up dn
  by_cases e : i = k ∧ j = q
  · obtain ⟨rfl, rfl⟩ := e
    rw [if_pos ⟨rfl, rfl⟩, if_pos (by omega)]
  · rw [if_neg e]
    by_cases l : i < k ∨ (i = k ∧ j < q)
    · rw [if_pos l, if_pos (by omega)]
    · rw [if_neg l, if_neg (by omega)]
theorem dn_here (f F : Nat → Nat → Int) (k q : Nat) : dn f F k q k q = F k q := by unfold dn; rw [if_neg (by omega)]
theorem dn_row {n : Nat} (f F : Nat → Nat → Int) (k i j : Nat) (hj : j < n) : dn f F k n i j = dn f F (k + 1) 0 i j := by
  unfold dn
  by_cases l : i < k ∨ (i = k ∧ j < n)
  · rw [if_pos l, if_pos (by omega)]
  · rw [if_neg l, if_neg (by omega)]
theorem dn_all {n : Nat} (f F : Nat → Nat → Int) (i j : Nat) (hi : i < n) : dn f F n 0 i j = f i j := by unfold dn; rw [if_pos (by omega)]
theorem dn_none (f F : Nat → Nat → Int) (i j : Nat) : dn f F 0 0 i j = F i j := by unfold dn; rw [if_neg (by omega)]
theorem row_enters : ∀ args w, (callFunc 65 args).run Try.prog w = .ok (.enter 65 args) w := enters_of Try.func65 rfl rfl
theorem column_enters : ∀ args w, (callFunc 40 args).run Try.prog w = .ok (.enter 40 args) w := enters_of Try.func40 rfl rfl
set_option maxRecDepth 100000 in
set_option maxHeartbeats 4000000 in
/-- What a function tells of the numbers of two matrices, place by place. -/
theorem paired_c (G1 : Nat) (eg : ∀ args w, (callFunc G1 args).run Try.prog w = .ok (.enter G1 args) w) (f : Int → Int → Int) (p : Int → Int → Bool) {a b : Option Addr} {c d n : Nat} {L M : List (List Int)} (w : World)
    (hc : ∀ {W : World}, Mr w W → ∀ {x y : Int}, B64 x → B64 y → Calls Try.prog G1 #[.int .i64 x, .int .i64 y] W fun e w' => e = .returned (.tuple #[.int .i64 (f x y), .bool (p x y)]) ∧ ∃ z : Ext W, w' = z.u)
    (h : Rs w a c L) (en : L.length = n) (h6 : n ≤ 6) (hr1 : ∀ i, i < n → (rw' L i).length = n) (g : Rs w b d M) (em : M.length = n) (hr2 : ∀ i, i < n → (rw' M i).length = n) :
    Calls Try.prog 44 #[.slice a n c, .slice b n d, .func (.func G1) #[] #[]] w fun e w' => ∃ G R, e = .returned (.tuple #[.slice (some ⟨G, 0, none⟩) n n, .bool (anyB (fun i => anyB (fun j => p (gt (rw' L i) j) (gt (rw' M i) j)) n) n)]) ∧ ∃ x : Ext w, w' = x.u ∧ Om w.heap.size x.u G n R (fun i j => f (gt (rw' L i) j) (gt (rw' M i) j)) := by
  obtain ⟨P1, hP1⟩ : ∃ P1 : Nat → Nat → Bool, P1 = fun i j => p (gt (rw' L i) j) (gt (rw' M i) j) := ⟨_, rfl⟩
  obtain ⟨f1, hf1⟩ : ∃ f1 : Nat → Nat → Int, f1 = fun i j => f (gt (rw' L i) j) (gt (rw' M i) j) := ⟨_, rfl⟩
  have hgoal : (fun i => anyB (fun j => p (gt (rw' L i) j) (gt (rw' M i) j)) n) = (fun i => anyB (P1 i) n) := by rw [hP1]
  rw [hgoal, ← hf1]
  clear hgoal
  obtain ⟨Q1, hQ1⟩ : ∃ Q1 : Nat → Bool, Q1 = fun i => anyB (P1 i) n := ⟨_, rfl⟩
  rw [← hQ1]
  replace hP1 : Hid (P1 = fun i j => p (gt (rw' L i) j) (gt (rw' M i) j)) := hP1
  replace hf1 : Hid (f1 = fun i j => f (gt (rw' L i) j) (gt (rw' M i) j)) := hf1
  replace hQ1 : Hid (Q1 = fun i => anyB (P1 i) n) := hQ1
  go_enter Try.func44, Try.ntmps44
  go_wp2_with (first | (go_at_call 39; refine (lined_c 65 row_enters _ (fun i => rw' L i) n h6 _ hr1 (fun W m i hi => by have := row_c W (h.mr m) en h6 i hi; rwa [hr1 i hi] at this)).mono ?_; rintro e w' ⟨G, R, rfl, x, rfl, hO0⟩; have hm0 := x.h; generalize x.u = W0 at *; clear x))
  go_loopw [9, 23] (fun F i wr => ∃ k : Nat, k ≤ n ∧ i = .int .i64 k ∧ F = .bool (anyB Q1 k) ∧ Om w.heap.size wr G n R (dn f1 (fun i j => gt (rw' L i) j) k 0) ∧ Mr w wr) (fun _ i _ => (n - (intOf i).toNat))
  case atStart => exact ⟨0, by omega, rfl, by simp [anyB], hO0.congr (fun i j _ _ => by rw [dn_none]), hm0⟩
  case round =>
    clear hO0 hm0
    obtain ⟨k, hk, rfl, rfl, hO', hm'⟩ := hrel
    have hcall := @hc
    clear hc
    by_cases hlt : k < n
    · have hlt' : (k : Int) < n := by omega
      obtain ⟨hg, hRk, hRl, hcl⟩ := hO'.at' k hlt
      go_wp2
      go_loopw [9, 30] (fun F j wr => ∃ q : Nat, q ≤ n ∧ j = .int .i64 q ∧ F = .bool (anyB Q1 k || anyB (P1 k) q) ∧ Om w.heap.size wr G n R (dn f1 (fun i j => gt (rw' L i) j) k q) ∧ Mr w wr) (fun _ j _ => (n - (intOf j).toNat))
      case atStart => exact ⟨0, by omega, rfl, by simp [anyB], hO', hm'⟩
      case round =>
        clear hO' hm' hg hRl hcl
        obtain ⟨q, hq, rfl, rfl, hO, hm⟩ := hrel
        by_cases hqt : q < n
        · have hqt' : (q : Int) < n := by omega
          obtain ⟨hg, -, hRl, hcl⟩ := hO.at' k hlt
          obtain ⟨hcl2, hfz2⟩ := hO.num k q hlt hqt
          rw [dn_here] at hcl2
          obtain ⟨b1, o1, ra1, rc1, rfl, hb1, hc1, hI1⟩ := (g.mr hm).row k (by omega)
          rw [hr2 k hlt] at hc1
          have hbY := hI1.bd q
          have hbX : B64 (gt (rw' L k) q) := by obtain ⟨b9, o9, ra9, rc9, -, -, -, hI9⟩ := h.row k (by omega); exact hI9.bd q
          obtain ⟨b2, o2, rfl, hb2, hc2⟩ := hI1.num q (by rw [hr2 k hlt]; exact hqt)
          have hset : ∀ W : World, Om w.heap.size W G n R (dn f1 (fun i j => gt (rw' L i) j) k q) → Om w.heap.size (W.setCell ⟨R k, q, none⟩ (.int .i64 (f1 k q))) G n R (dn f1 (fun i j => gt (rw' L i) j) k (q + 1)) := fun W hW => (hW.set k q hlt (f1 k q)).congr (fun i j _ _ => dn_step (n := n) f1 _ k q i j)
          have hF : Hid ((anyB Q1 k || anyB (P1 k) (q + 1)) = ((anyB Q1 k || anyB (P1 k) q) || P1 k q)) := by rw [Hid, anyB_succ, Bool.or_assoc]
          have hA : f (gt (rw' L k) q) (gt (rw' M k) q) = f1 k q := by rw [hf1.out]
          have hB : p (gt (rw' L k) q) (gt (rw' M k) q) = P1 k q := by rw [hP1.out]
          generalize f1 k q = A1 at *
          generalize P1 k q = B1 at *
          clear hI1 h g hr1 hr2 hP1 hf1 hQ1
          generalize gt (rw' L k) q = X at *
          generalize gt (rw' M k) q = Y at *
          generalize hFF : (anyB Q1 k || anyB (P1 k) q) = F at *
          clear hFF
          cases F
          all_goals
            go_wp2_with (first | (go_at_fn G1; refine (hcall hm hbX hbY).mono ?_; rw [hA, hB]; rintro e w' ⟨rfl, x, rfl⟩; have hm1 := hm.trans x.h; have hO1 := hO.mr x.h; generalize x.u = W1 at *; clear x; obtain ⟨hcl1, hfz1⟩ := hO1.num k q hlt hqt; have hs1 := hset W1 hO1; clear hO1))
            go_roundw
            case rel => exact ⟨q + 1, by omega, by go_num, by rw [hF.out]; simp, hs1, hm1.setCell (by simpa using hRk) _⟩
            case measure => simp [intOf]; omega
        · obtain rfl : q = n := by omega
          have hF : Hid ((anyB Q1 k || anyB (P1 k) q) = anyB Q1 (k + 1)) := by rw [Hid, anyB_succ, hQ1.out]
          have hO2 := hO.congr (G := dn f1 (fun i j => gt (rw' L i) j) (k + 1) 0) (fun i j _ hj => dn_row f1 _ k i j hj)
          clear h g hr1 hr2 hO hcall hP1 hf1 hQ1
          generalize (anyB Q1 k || anyB (P1 k) q) = F at *
          go_wp2
          go_roundw
          case rel => exact ⟨k + 1, by omega, by go_num, by rw [hF.out], hO2, hm⟩
          case measure => simp [intOf]; omega
    · obtain rfl : k = n := by omega
      have hD := hO'.congr (G := f1) (fun i j hi _ => dn_all f1 _ i j hi)
      clear h g hr1 hr2 hO' hcall
      obtain ⟨F, hFe⟩ : ∃ F, anyB Q1 k = F := ⟨_, rfl⟩
      rw [hFe]
      replace hFe : Hid (anyB Q1 k = F) := hFe
      go_wp2
      go_ret2
      exact ⟨_, _, by rw [hFe.out]; rfl, ⟨_, hm'⟩, rfl, hD⟩
end Ma
end Go.Proofs.Ytpammdogkkipbaa
/- The contracts of package mat. -/
namespace Go.Proofs.Ytpammdogkkipbaa
open Go.ChangeShapes Go.WideShapes Go.ChangeAt Go.RowKit Go.Shelf
open Go.Proofs.Ytpammdogkkipbaa.Fx Go.Proofs.Ytpammdogkkipbaa.Sl Go.Proofs.Ytpammdogkkipbaa.Sm Go.Proofs.Ytpammdogkkipbaa.Vc
set_option linter.unusedVariables false
attribute [local go_sem] Ext.cell Ext.froz Ext.lt Ext.lt1 Ext.lt2 Ext.lt3 Ext.all Ext.set_u drew_heap setCell_size Ext.set_size
namespace Ma
set_option maxHeartbeats 1000000 in
theorem msane_u {a : Option Addr} {c n : Nat} {L : List (List Int)} {w : World} (h : Rs w a c L) (en : L.length = n) : Calls Try.prog 16 #[.slice a n c] w fun e w' => e = .returned (.bool (Sl.sq L)) ∧ ∃ x : Ext w, w' = x.u := by
  have m0 := h.max
  have k0 := h.le
  unfold maxLen at m0
  have hn9 : n ≤ 9223372036854775807 := by omega
  have HS : Hid (Sl.sq L = (L.all (fun r => r.length == n) && decide (1 ≤ n) && decide (n ≤ 6))) := by unfold Sl.sq; rw [en]; trivial
  clear m0 k0
  by_cases h1 : n < 1
  · have hf : Hid (Sl.sq L = false) := by rw [Hid, HS.out, show decide (1 ≤ n) = false from decide_eq_false (by omega), Bool.and_false, Bool.false_and]
    have h1' : (n : Int) < 1 := by omega
    clear h HS
    go_enter Try.func16, Try.ntmps16
    go_wp2
    go_ret
    exact ⟨by rw [hf.out]; first | done | rfl, Mr.mk' (by repeat (first | (with_reducible exact Mr.refl _) | (with_reducible assumption) | (with_reducible apply Mr.drew) | (with_reducible apply Mr.alloc) | (with_reducible apply Mr.ext) | (with_reducible refine Mr.setCell ?_ (by first | (simp; done) | (simp; omega) | omega | (refine leOf0 ?_; (repeat (first | (with_reducible exact Mr.refl _) | (with_reducible apply Mr.drew) | (with_reducible apply Mr.alloc) | (with_reducible apply Mr.ext) | (with_reducible refine Mr.setCell ?_ (by first | (simp; done) | (simp; omega) | omega) _))); done) | (refine leOf ?_; (repeat (first | (with_reducible exact Mr.refl _) | (with_reducible apply Mr.drew) | (with_reducible apply Mr.alloc) | (with_reducible apply Mr.ext) | (with_reducible refine Mr.setCell ?_ (by first | (simp; done) | (simp; omega) | omega) _))); done)) _)))⟩
  · have h1' : ¬ (n : Int) < 1 := by omega
    by_cases h6 : 6 < n
    · have hf : Hid (Sl.sq L = false) := by rw [Hid, HS.out, show decide (n ≤ 6) = false from decide_eq_false (by omega), Bool.and_false]
      have h6' : (6 : Int) < n := by omega
      clear h HS
      go_enter Try.func16, Try.ntmps16
      go_wp2
      go_ret
      exact ⟨by rw [hf.out]; first | done | rfl, Mr.mk' (by repeat (first | (with_reducible exact Mr.refl _) | (with_reducible assumption) | (with_reducible apply Mr.drew) | (with_reducible apply Mr.alloc) | (with_reducible apply Mr.ext) | (with_reducible refine Mr.setCell ?_ (by first | (simp; done) | (simp; omega) | omega | (refine leOf0 ?_; (repeat (first | (with_reducible exact Mr.refl _) | (with_reducible apply Mr.drew) | (with_reducible apply Mr.alloc) | (with_reducible apply Mr.ext) | (with_reducible refine Mr.setCell ?_ (by first | (simp; done) | (simp; omega) | omega) _))); done) | (refine leOf ?_; (repeat (first | (with_reducible exact Mr.refl _) | (with_reducible apply Mr.drew) | (with_reducible apply Mr.alloc) | (with_reducible apply Mr.ext) | (with_reducible refine Mr.setCell ?_ (by first | (simp; done) | (simp; omega) | omega) _))); done)) _)))⟩
    · have h6' : ¬ (6 : Int) < n := by omega
      have HT : Hid (Sl.sq L = L.all (fun r => r.length == n)) := by rw [Hid, HS.out, decide_eq_true (by omega), decide_eq_true (by omega), Bool.and_true, Bool.and_true]
      clear HS
      go_enter Try.func16, Try.ntmps16
      go_wp2
      go_loopw [16] (fun i wr => ∃ j : Nat, j ≤ n ∧ i = .int .i64 j ∧ wr = w ∧ Hid (∀ k, k < j → (rw' L k).length = n)) (fun i _ => n - (intOf i).toNat)
      case atStart => exact ⟨0, by omega, rfl, rfl, fun k hk => by omega⟩
      case round =>
        obtain ⟨j, hj, rfl, rfl, HB⟩ := hrel
        by_cases hlt : j < n
        · obtain ⟨b, o, ra, rc, rfl, hb, hc, -⟩ := h.row j (by omega)
          have hlt' : (j : Int) < n := by omega
          by_cases he : (rw' L j).length = n
          · have he' : Hid ((rw' L j).length = n) := he
            rw [he] at hc
            clear h
            go_wp2
            go_roundw
            case rel => exact ⟨j + 1, by omega, by first | rfl | simp, by first | rfl | trivial, fun k hk => by rcases Nat.lt_or_ge k j with g | g; exact HB.out k g; obtain rfl : k = j := (by omega); exact he'.out⟩
            case measure => simp [intOf]; omega
          · have hf : Hid (Sl.sq L = false) := by rw [Hid, HT.out, all_no _ L j (by omega) (by simpa using he)]
            generalize (rw' L j).length = m at *
            have he' : ¬ (m : Int) = n := by omega
            clear h he
            go_wp2
            go_ret
            exact ⟨by rw [hf.out]; first | done | rfl, Mr.mk' (by repeat (first | (with_reducible exact Mr.refl _) | (with_reducible assumption) | (with_reducible apply Mr.drew) | (with_reducible apply Mr.alloc) | (with_reducible apply Mr.ext) | (with_reducible refine Mr.setCell ?_ (by first | (simp; done) | (simp; omega) | omega | (refine leOf0 ?_; (repeat (first | (with_reducible exact Mr.refl _) | (with_reducible apply Mr.drew) | (with_reducible apply Mr.alloc) | (with_reducible apply Mr.ext) | (with_reducible refine Mr.setCell ?_ (by first | (simp; done) | (simp; omega) | omega) _))); done) | (refine leOf ?_; (repeat (first | (with_reducible exact Mr.refl _) | (with_reducible apply Mr.drew) | (with_reducible apply Mr.alloc) | (with_reducible apply Mr.ext) | (with_reducible refine Mr.setCell ?_ (by first | (simp; done) | (simp; omega) | omega) _))); done)) _)))⟩
        · obtain rfl : j = n := by omega
          have hb : Hid (Sl.sq L = true) := by rw [Hid, HT.out, (all_rw _ L).2 (fun k hk => by simpa using HB.out k (by omega))]
          clear h HB
          go_wp2
          go_ret
          exact ⟨by rw [hb.out]; rfl, Mr.mk' (by repeat (first | (with_reducible exact Mr.refl _) | (with_reducible assumption) | (with_reducible apply Mr.drew) | (with_reducible apply Mr.alloc) | (with_reducible apply Mr.ext) | (with_reducible refine Mr.setCell ?_ (by first | (simp; done) | (simp; omega) | omega | (refine leOf0 ?_; (repeat (first | (with_reducible exact Mr.refl _) | (with_reducible apply Mr.drew) | (with_reducible apply Mr.alloc) | (with_reducible apply Mr.ext) | (with_reducible refine Mr.setCell ?_ (by first | (simp; done) | (simp; omega) | omega) _))); done) | (refine leOf ?_; (repeat (first | (with_reducible exact Mr.refl _) | (with_reducible apply Mr.drew) | (with_reducible apply Mr.alloc) | (with_reducible apply Mr.ext) | (with_reducible refine Mr.setCell ?_ (by first | (simp; done) | (simp; omega) | omega) _))); done)) _)))⟩
/-- What a list of rows counts as. -/
theorem counted_c {a : Option Addr} {c n : Nat} {L : List (List Int)} (w : World) (h : Rs w a c L) (en : L.length = n) :
    Calls Try.prog 42 #[.slice a n c] w fun e w' => e = .returned (if Sl.sq L then .slice a n c else .slice none 0 0) ∧ ∃ x : Ext w, w' = x.u := by
  cases hs : Sl.sq L
  all_goals
    go_enter Try.func42, Try.ntmps42
    go_wp2_with (first | (go_at_call 16; refine (msane_u (by first | exact h | exact h.mr (by repeat (first | (with_reducible exact Mr.refl _) | (with_reducible assumption) | (with_reducible apply Mr.drew) | (with_reducible apply Mr.alloc) | (with_reducible apply Mr.ext) | (with_reducible refine Mr.setCell ?_ (by first | (simp; done) | (simp; omega) | omega | (refine leOf0 ?_; (repeat (first | (with_reducible exact Mr.refl _) | (with_reducible apply Mr.drew) | (with_reducible apply Mr.alloc) | (with_reducible apply Mr.ext) | (with_reducible refine Mr.setCell ?_ (by first | (simp; done) | (simp; omega) | omega) _))); done) | (refine leOf ?_; (repeat (first | (with_reducible exact Mr.refl _) | (with_reducible apply Mr.drew) | (with_reducible apply Mr.alloc) | (with_reducible apply Mr.ext) | (with_reducible refine Mr.setCell ?_ (by first | (simp; done) | (simp; omega) | omega) _))); done)) _)))) en).mono ?_; rintro e w' ⟨rfl, x, rfl⟩))
    go_ret
    exact ⟨rfl, Mr.mk' (by repeat (first | (with_reducible exact Mr.refl _) | (with_reducible assumption) | (with_reducible apply Mr.drew) | (with_reducible apply Mr.alloc) | (with_reducible apply Mr.ext) | (with_reducible refine Mr.setCell ?_ (by first | (simp; done) | (simp; omega) | omega | (refine leOf0 ?_; (repeat (first | (with_reducible exact Mr.refl _) | (with_reducible apply Mr.drew) | (with_reducible apply Mr.alloc) | (with_reducible apply Mr.ext) | (with_reducible refine Mr.setCell ?_ (by first | (simp; done) | (simp; omega) | omega) _))); done) | (refine leOf ?_; (repeat (first | (with_reducible exact Mr.refl _) | (with_reducible apply Mr.drew) | (with_reducible apply Mr.alloc) | (with_reducible apply Mr.ext) | (with_reducible refine Mr.setCell ?_ (by first | (simp; done) | (simp; omega) | omega) _))); done)) _)))⟩
theorem alike_c {a b : Option Addr} {c d n m : Nat} {L M : List (List Int)} (w : World) (h : Rs w a c L) (en : L.length = n) (g : Rs w b d M) (em : M.length = m) :
    Calls Try.prog 38 #[.slice a n c, .slice b m d] w fun e w' => e = .returned (.bool (Sl.sq L && Sl.sq M && decide ((n : Int) = m))) ∧ ∃ x : Ext w, w' = x.u := by
  have t1 : Unit := ()
  cases hs : Sl.sq L
  · go_enter Try.func38, Try.ntmps38
    go_wp2_with (first | ((have := t1; clear this t1); (go_at_call 16; refine (msane_u (by first | exact h | exact h.mr (by repeat (first | (with_reducible exact Mr.refl _) | (with_reducible assumption) | (with_reducible apply Mr.drew) | (with_reducible apply Mr.alloc) | (with_reducible apply Mr.ext) | (with_reducible refine Mr.setCell ?_ (by first | (simp; done) | (simp; omega) | omega | (refine leOf0 ?_; (repeat (first | (with_reducible exact Mr.refl _) | (with_reducible apply Mr.drew) | (with_reducible apply Mr.alloc) | (with_reducible apply Mr.ext) | (with_reducible refine Mr.setCell ?_ (by first | (simp; done) | (simp; omega) | omega) _))); done) | (refine leOf ?_; (repeat (first | (with_reducible exact Mr.refl _) | (with_reducible apply Mr.drew) | (with_reducible apply Mr.alloc) | (with_reducible apply Mr.ext) | (with_reducible refine Mr.setCell ?_ (by first | (simp; done) | (simp; omega) | omega) _))); done)) _)))) en).mono ?_; rintro e w' ⟨rfl, x, rfl⟩)) | (go_at_call 16; refine (msane_u (by first | exact g | exact g.mr (by repeat (first | (with_reducible exact Mr.refl _) | (with_reducible assumption) | (with_reducible apply Mr.drew) | (with_reducible apply Mr.alloc) | (with_reducible apply Mr.ext) | (with_reducible refine Mr.setCell ?_ (by first | (simp; done) | (simp; omega) | omega | (refine leOf0 ?_; (repeat (first | (with_reducible exact Mr.refl _) | (with_reducible apply Mr.drew) | (with_reducible apply Mr.alloc) | (with_reducible apply Mr.ext) | (with_reducible refine Mr.setCell ?_ (by first | (simp; done) | (simp; omega) | omega) _))); done) | (refine leOf ?_; (repeat (first | (with_reducible exact Mr.refl _) | (with_reducible apply Mr.drew) | (with_reducible apply Mr.alloc) | (with_reducible apply Mr.ext) | (with_reducible refine Mr.setCell ?_ (by first | (simp; done) | (simp; omega) | omega) _))); done)) _)))) em).mono ?_; rintro e w' ⟨rfl, y, rfl⟩))
    go_ret
    exact ⟨rfl, Mr.mk' (by repeat (first | (with_reducible exact Mr.refl _) | (with_reducible assumption) | (with_reducible apply Mr.drew) | (with_reducible apply Mr.alloc) | (with_reducible apply Mr.ext) | (with_reducible refine Mr.setCell ?_ (by first | (simp; done) | (simp; omega) | omega | (refine leOf0 ?_; (repeat (first | (with_reducible exact Mr.refl _) | (with_reducible apply Mr.drew) | (with_reducible apply Mr.alloc) | (with_reducible apply Mr.ext) | (with_reducible refine Mr.setCell ?_ (by first | (simp; done) | (simp; omega) | omega) _))); done) | (refine leOf ?_; (repeat (first | (with_reducible exact Mr.refl _) | (with_reducible apply Mr.drew) | (with_reducible apply Mr.alloc) | (with_reducible apply Mr.ext) | (with_reducible refine Mr.setCell ?_ (by first | (simp; done) | (simp; omega) | omega) _))); done)) _)))⟩
  · cases hm : Sl.sq M
    all_goals
      go_enter Try.func38, Try.ntmps38
      go_wp2_with (first | (go_at_call 16; (have := t1; clear this t1); refine (msane_u (by first | exact h | exact h.mr (by repeat (first | (with_reducible exact Mr.refl _) | (with_reducible assumption) | (with_reducible apply Mr.drew) | (with_reducible apply Mr.alloc) | (with_reducible apply Mr.ext) | (with_reducible refine Mr.setCell ?_ (by first | (simp; done) | (simp; omega) | omega | (refine leOf0 ?_; (repeat (first | (with_reducible exact Mr.refl _) | (with_reducible apply Mr.drew) | (with_reducible apply Mr.alloc) | (with_reducible apply Mr.ext) | (with_reducible refine Mr.setCell ?_ (by first | (simp; done) | (simp; omega) | omega) _))); done) | (refine leOf ?_; (repeat (first | (with_reducible exact Mr.refl _) | (with_reducible apply Mr.drew) | (with_reducible apply Mr.alloc) | (with_reducible apply Mr.ext) | (with_reducible refine Mr.setCell ?_ (by first | (simp; done) | (simp; omega) | omega) _))); done)) _)))) en).mono ?_; rintro e w' ⟨rfl, x, rfl⟩) | (go_at_call 16; refine (msane_u (by first | exact g | exact g.mr (by repeat (first | (with_reducible exact Mr.refl _) | (with_reducible assumption) | (with_reducible apply Mr.drew) | (with_reducible apply Mr.alloc) | (with_reducible apply Mr.ext) | (with_reducible refine Mr.setCell ?_ (by first | (simp; done) | (simp; omega) | omega | (refine leOf0 ?_; (repeat (first | (with_reducible exact Mr.refl _) | (with_reducible apply Mr.drew) | (with_reducible apply Mr.alloc) | (with_reducible apply Mr.ext) | (with_reducible refine Mr.setCell ?_ (by first | (simp; done) | (simp; omega) | omega) _))); done) | (refine leOf ?_; (repeat (first | (with_reducible exact Mr.refl _) | (with_reducible apply Mr.drew) | (with_reducible apply Mr.alloc) | (with_reducible apply Mr.ext) | (with_reducible refine Mr.setCell ?_ (by first | (simp; done) | (simp; omega) | omega) _))); done)) _)))) em).mono ?_; rintro e w' ⟨rfl, y, rfl⟩))
      go_ret
      exact ⟨by first | rfl | simp, Mr.mk' (by repeat (first | (with_reducible exact Mr.refl _) | (with_reducible assumption) | (with_reducible apply Mr.drew) | (with_reducible apply Mr.alloc) | (with_reducible apply Mr.ext) | (with_reducible refine Mr.setCell ?_ (by first | (simp; done) | (simp; omega) | omega | (refine leOf0 ?_; (repeat (first | (with_reducible exact Mr.refl _) | (with_reducible apply Mr.drew) | (with_reducible apply Mr.alloc) | (with_reducible apply Mr.ext) | (with_reducible refine Mr.setCell ?_ (by first | (simp; done) | (simp; omega) | omega) _))); done) | (refine leOf ?_; (repeat (first | (with_reducible exact Mr.refl _) | (with_reducible apply Mr.drew) | (with_reducible apply Mr.alloc) | (with_reducible apply Mr.ext) | (with_reducible refine Mr.setCell ?_ (by first | (simp; done) | (simp; omega) | omega) _))); done)) _)))⟩
theorem add_enters : ∀ args w, (callFunc 45 args).run Try.prog w = .ok (.enter 45 args) w := enters_of Try.func45 rfl rfl
set_option maxHeartbeats 1000000 in
theorem madd_u {a b : Option Addr} {c d n m : Nat} {L M : List (List Int)} {w : World} (h : Rs w a c L) (en : L.length = n) (g : Rs w b d M) (em : M.length = m) : Ret2 Try.prog 21 #[.slice a n c, .slice b m d] w (addL L M) (addB L M) := by
  unfold Ret2 addL addB
  cases hs : ok2 L M
  · unfold ok2 at hs
    rw [en, em] at hs
    simp only [Bool.false_eq_true, if_false]
    go_enter Try.func21, Try.ntmps21
    go_wp2_with (first | (go_at_call 38; refine (alike_c _ h en g em).mono ?_; rw [hs]; rintro e w' ⟨rfl, x, rfl⟩; have hm0 := x.h; replace h := h.ext x; replace g := g.ext x; generalize x.u = W0 at *; clear x))
    go_ret2
    exact ⟨none, 0, rfl, ⟨_, hm0⟩, rfl, rs_nil _⟩
  · unfold ok2 at hs
    rw [en, em] at hs
    obtain ⟨h6, hnm, hr1, hr2⟩ := both_ok hs en em
    subst hnm
    simp only [if_true]
    have hR : mkR (sumR L M) L.length = mkR (fun i => Ma.mk (fun j => av (gt (rw' L i) j) (gt (rw' M i) j)) n) n := by rw [en]; unfold sumR; rw [en]
    have hB : anyB (sumB L M) L.length = anyB (fun i => anyB (fun j => ao (gt (rw' L i) j) (gt (rw' M i) j)) n) n := by rw [en]; unfold sumB; rw [en]
    rw [hR, hB, mkR_length]
    obtain ⟨F, hF⟩ : ∃ F, anyB (fun i => anyB (fun j => ao (gt (rw' L i) j) (gt (rw' M i) j)) n) n = F := ⟨_, rfl⟩
    rw [hF]
    clear hR hB
    go_enter Try.func21, Try.ntmps21
    go_wp2_with (first | (go_at_call 38; refine (alike_c _ h en g em).mono ?_; rw [hs]; rintro e w' ⟨rfl, x, rfl⟩; have hm0 := x.h; replace h := h.ext x; replace g := g.ext x; generalize x.u = W0 at *; clear x) | (go_at_call 44; refine (paired_c 45 add_enters av ao _ (fun _ _ _ _ _ => Calls.mono (add_c _ _ _) (fun _ _ ⟨he, hw⟩ => ⟨he, ⟨_, Mr.refl _⟩, hw⟩)) h en h6.2 hr1 g em hr2).mono ?_; rintro e w' ⟨G, R, rfl, x, rfl, hO⟩; have hm1 := hm0.trans x.h; generalize x.u = W1 at *; clear x))
    go_ret2
    exact ⟨_, _, by rw [← hF]; rfl, ⟨_, hm1⟩, rfl, hO.done (by unfold maxLen; omega) (fun i j _ _ => by have := av_bd (gt (rw' L i) j) (gt (rw' M i) j); omega)⟩
/-- The turned one, as it is copied. -/
def colsL (L : List (List Int)) (n : Nat) : List (List Int) := mkR (fun i => Ma.mk (fun j => gt (col L i) j) n) n
theorem colsL_length (L : List (List Int)) (n : Nat) : (colsL L n).length = n := mkR_length _ _
theorem colsL_row (L : List (List Int)) {n i : Nat} (hi : i < n) : (rw' (colsL L n) i).length = n := by unfold colsL; rw [rw_mkR _ _ _ hi, mk_length]
theorem gt_cl8 (L : List (List Int)) {n : Nat} (en : L.length = n) {i j : Nat} (hj : j < n) : gt (col L i) j = gt (rw' L j) i := by rw [col_mk, gt_mk, if_pos (by omega)]
theorem colsL_at (L : List (List Int)) {n : Nat} (en : L.length = n) {i j : Nat} (hi : i < n) (hj : j < n) : gt (rw' (colsL L n) i) j = gt (rw' L j) i := by
  unfold colsL
  rw [rw_mkR _ _ _ hi, gt_mk, if_pos hj, gt_cl8 L en hj]
theorem col_length (L : List (List Int)) (j : Nat) : (col L j).length = L.length := by rw [col_mk, mk_length]
theorem gt_bd {w : World} {a : Option Addr} {c n : Nat} {L : List (List Int)} (h : Rs w a c L) (en : L.length = n) {i : Nat} (hi : i < n) (j : Nat) : B64 (gt (rw' L i) j) := by
  obtain ⟨b9, o9, ra9, rc9, -, -, -, hI9⟩ := h.row i (by omega); exact hI9.bd j
theorem mn2_b64 (x y : Int) : B64 (mn [x, y]) := by
  unfold mn
  have := tot_bd [x, y]
  have e : (vk [x, y] 64).length = 2 := rfl
  rw [e] at this
  rw [e, if_neg (by omega)]
  unfold B64
  omega
set_option maxRecDepth 100000 in
set_option maxHeartbeats 4000000 in
theorem turned1_c {a a' : Option Addr} {c c' n n' : Nat} {L L' : List (List Int)} {w : World} (h : Rs w a c L) (en : L.length = n) (hcnt : (if Sl.sq L then Value.slice a n c else .slice none 0 0) = .slice a' n' c') (h' : Rs w a' c' L') (en' : L'.length = n') (h6 : n' ≤ 6) (hr : ∀ i, i < n' → (rw' L' i).length = n') :
    Calls Try.prog 20 #[.slice a n c] w fun e w' => ∃ G R, e = .returned (.slice (some ⟨G, 0, none⟩) n' n') ∧ ∃ x : Ext w, w' = x.u ∧ Om w.heap.size x.u G n' R (fun i j => cl (gt (col L' i) j)) := by
  obtain ⟨F0, hF0⟩ : ∃ F0 : Nat → Nat → Int, F0 = fun i j => gt (col L' i) j := ⟨_, rfl⟩
  obtain ⟨f1, hf1⟩ : ∃ f1 : Nat → Nat → Int, f1 = fun i j => cl (F0 i j) := ⟨_, rfl⟩
  have hq1 : (fun i j => cl (gt (col L' i) j)) = f1 := by rw [hf1, hF0]
  rw [hq1]
  clear hq1
  replace hf1 : Hid (f1 = fun i j => cl (F0 i j)) := hf1
  replace hF0 : Hid (F0 = fun i j => gt (col L' i) j) := hF0
  go_enter Try.func20, Try.ntmps20
  go_wp2_with (first | (go_at_call 42; refine (counted_c _ h en).mono ?_; rw [hcnt]; rintro e w' ⟨rfl, x, rfl⟩; have hm0 := x.h; replace h' := h'.ext x; generalize x.u = W0 at *; clear x) | (go_at_call 39; refine (lined_c 40 column_enters _ (fun i => col L' i) n' h6 _ (fun i hi => by rw [col_length]; exact en') (fun W m i hi => column_c W (h'.mr m) en' h6 i (fun k hk => by rw [hr k hk]; exact hi))).mono ?_; rintro e w' ⟨G1, R1, rfl, x, rfl, hO1⟩; have hm1 := hm0.trans x.h; have h1' := h'.ext x; have hM : Rs x.u (some ⟨G1, 0, none⟩) n' (colsL L' n') := hO1.done (by unfold maxLen; omega) (fun i j hi hj => by rw [gt_cl8 L' en' hj]; exact gt_bd h1' en' hj i); generalize x.u = W1 at *; clear x))
  rw [← hF0.out] at hO1
  clear hM h1' h' h hcnt hF0
  replace hO1 := hO1.mono hm0.below.size
  generalize G1 = G at *
  generalize R1 = R at *
  go_loopw [18] (fun i wr => ∃ k : Nat, k ≤ n' ∧ i = .int .i64 k ∧ Om w.heap.size wr G n' R (dn f1 F0 k 0) ∧ Mr w wr) (fun i _ => (n' - (intOf i).toNat))
  case atStart => exact ⟨0, by omega, rfl, hO1.congr (fun i j _ _ => by rw [dn_none]), hm1⟩
  case round =>
    clear hO1 hm1 hm0
    obtain ⟨k, hk, rfl, hO', hm'⟩ := hrel
    by_cases hlt : k < n'
    · have hlt' : (k : Int) < n' := by omega
      obtain ⟨hg, hRk, hRl, hcl⟩ := hO'.at' k hlt
      go_wp2
      go_loopw [24] (fun j wr => ∃ q : Nat, q ≤ n' ∧ j = .int .i64 q ∧ Om w.heap.size wr G n' R (dn f1 F0 k q) ∧ Mr w wr) (fun j _ => (n' - (intOf j).toNat))
      case atStart => exact ⟨0, by omega, rfl, hO', hm'⟩
      case round =>
        clear hO' hm' hg hRl hcl
        obtain ⟨q, hq, rfl, hO, hm⟩ := hrel
        by_cases hqt : q < n'
        · have hqt' : (q : Int) < n' := by omega
          obtain ⟨hg, -, hRl, hcl⟩ := hO.at' k hlt
          obtain ⟨hcl2, hfz2⟩ := hO.num k q hlt hqt
          rw [dn_here] at hcl2
          have hset : Om w.heap.size (wr.setCell ⟨R k, q, none⟩ (.int .i64 (cl (F0 k q)))) G n' R (dn f1 F0 k (q + 1)) := by
            have e : cl (F0 k q) = f1 k q := by rw [hf1.out]
            rw [e]
            exact (hO.set k q hlt (f1 k q)).congr (fun i j _ _ => dn_step (n := n') f1 _ k q i j)
          clear hO hf1
          generalize F0 k q = X at *
          go_wp2_with (first | (go_at_call 43; refine (clamp_c _ _).mono ?_; rintro e w' ⟨rfl, rfl⟩))
          go_roundw
          case rel => exact ⟨q + 1, by omega, by go_num, hset, hm.setCell (by simpa using hRk) _⟩
          case measure => simp [intOf]; omega
        · obtain rfl : q = n' := by omega
          have hO2 := hO.congr (G := dn f1 F0 (k + 1) 0) (fun i j _ hj => dn_row f1 _ k i j hj)
          clear hO hf1
          go_wp2
          go_roundw
          case rel => exact ⟨k + 1, by omega, by go_num, hO2, hm⟩
          case measure => simp [intOf]; omega
    · obtain rfl : k = n' := by omega
      have hD := hO'.congr (G := f1) (fun i j hi _ => dn_all f1 _ i j hi)
      clear hO'
      go_wp2
      go_ret
      exact ⟨_, _, rfl, ⟨_, hm'⟩, rfl, hD⟩
theorem mturned_u {a : Option Addr} {c n : Nat} {L : List (List Int)} {w : World} (h : Rs w a c L) (en : L.length = n) : Ret Try.prog 20 #[.slice a n c] w (tuL L) := by
  unfold Ret tuL
  cases hs : Sl.sq L
  · refine (turned1_c (a' := none) (c' := 0) (n' := 0) (L' := []) h en (by rw [hs]; rfl) (rs_nil _) rfl (by omega) (fun i hi => by omega)).mono ?_
    rintro e w' ⟨G, R, rfl, x, rfl, hO⟩
    exact ⟨_, _, rfl, x, rfl, hO.done (by unfold maxLen; omega) (fun i j hi => by omega)⟩
  · obtain ⟨h6, hr⟩ := sq_ok hs en
    refine (turned1_c h en (by rw [hs]; rfl) h en h6.2 hr).mono ?_
    rintro e w' ⟨G, R, rfl, x, rfl, hO⟩
    have e : mkR (tuR L) L.length = mkR (fun i => Ma.mk (fun j => cl (gt (rw' L j) i)) n) n := by rw [en]; unfold tuR; rw [en]
    simp only [if_true]
    rw [e, mkR_length]
    exact ⟨_, _, rfl, x, rfl, (hO.congr (G := fun i j => cl (gt (rw' L j) i)) (fun i j hi hj => by rw [gt_cl8 L en hj])).done (by unfold maxLen; omega) (fun i j hi hj => by have := cl_bd (gt (rw' L j) i); omega)⟩
set_option maxRecDepth 100000 in
set_option maxHeartbeats 2000000 in
theorem one1_c (n : Nat) (w : World) (h1 : 1 ≤ n) (h6 : n ≤ 6) :
    Calls Try.prog 18 #[.int .i64 n] w fun e w' => ∃ G R, e = .returned (.slice (some ⟨G, 0, none⟩) n n) ∧ ∃ x : Ext w, w' = x.u ∧ Om w.heap.size x.u G n R (fun i j => if j = i then 4294967296 else 0) := by
  have h1' : ¬ (n : Int) < 1 := by omega
  have h6' : ¬ (6 : Int) < n := by omega
  go_enter Try.func18, Try.ntmps18
  go_wp2_with (first | (go_at_call 37; refine (blank_c n _ h6).mono ?_; rintro e w' ⟨G, R, rfl, x, rfl, hO0⟩; have hm0 := x.h; generalize x.u = W0 at *; clear x))
  go_loopw [15] (fun i wr => ∃ k : Nat, k ≤ n ∧ i = .int .i64 k ∧ Om w.heap.size wr G n R (fun i j => if i < k ∧ j = i then 4294967296 else 0) ∧ Mr w wr) (fun i _ => (n - (intOf i).toNat))
  case atStart => exact ⟨0, by omega, rfl, hO0.congr (fun i j _ _ => by rw [if_neg (by omega)]), hm0⟩
  case round =>
    clear hO0 hm0
    obtain ⟨k, hk, rfl, hO, hm⟩ := hrel
    by_cases hlt : k < n
    · have hlt' : (k : Int) < n := by omega
      obtain ⟨hg, hRk, hRl, hcl⟩ := hO.at' k hlt
      obtain ⟨hcl2, hfz2⟩ := hO.num k k hlt hlt
      have hset : Om w.heap.size (wr.setCell ⟨R k, k, none⟩ (.int .i64 4294967296)) G n R (fun i j => if i < k + 1 ∧ j = i then 4294967296 else 0) := (hO.set k k hlt _).congr (fun i j _ _ => by
        unfold up
        by_cases e : i = k ∧ j = k
        · rw [if_pos e, if_pos (by omega)]
        · rw [if_neg e]
          show (if i < k ∧ j = i then (4294967296 : Int) else 0) = _
          by_cases l : i < k ∧ j = i
          · rw [if_pos l, if_pos (by omega)]
          · rw [if_neg l, if_neg (by omega)])
      clear hO
      go_wp2
      go_roundw
      case rel => exact ⟨k + 1, by omega, by go_num, hset, hm.setCell (by simpa using hRk) _⟩
      case measure => simp [intOf]; omega
    · obtain rfl : k = n := by omega
      have hD := hO.congr (G := fun i j => if j = i then 4294967296 else 0) (fun i j hi _ => by by_cases e : j = i; (rw [if_pos e, if_pos ⟨hi, e⟩]); rw [if_neg e, if_neg (by omega)])
      clear hO
      go_wp2
      go_ret
      exact ⟨_, _, rfl, ⟨_, hm⟩, rfl, hD⟩
theorem mone_u (n : Int) (w : World) : Ret Try.prog 18 #[.int .i64 n] w (oneL n) := by
  unfold Ret oneL
  by_cases h : 1 ≤ n ∧ n ≤ 6
  · rw [if_pos h]
    have hn : n = (n.toNat : Int) := by omega
    have := one1_c n.toNat w (by omega) (by omega)
    rw [← hn] at this
    refine this.mono ?_
    rintro e w' ⟨G, R, rfl, x, rfl, hO⟩
    rw [mkR_length]
    exact ⟨_, _, rfl, x, rfl, hO.done (by unfold maxLen; omega) (fun i j _ _ => by split <;> omega)⟩
  · rw [if_neg h]
    by_cases h1 : n < 1
    · go_enter Try.func18, Try.ntmps18
      go_wp2
      go_ret
      exact ⟨none, 0, rfl, ⟨_, Mr.refl _⟩, rfl, rs_nil _⟩
    · have h6 : 6 < n := by omega
      clear h
      go_enter Try.func18, Try.ntmps18
      go_wp2
      go_ret
      exact ⟨none, 0, rfl, ⟨_, Mr.refl _⟩, rfl, rs_nil _⟩
theorem db_comm (l m : List Int) : db l m = db m l := by
  unfold db
  have e : kk l m = kk m l := by unfold kk; rw [Nat.min_comm]
  rw [dz_eq, dz_eq, zip_comm, e, Bool.or_comm (ck (l.take (kk m l)) 64)]
set_option maxRecDepth 100000 in
set_option maxHeartbeats 4000000 in
theorem mul1_c {a b : Option Addr} {c d n : Nat} {L M : List (List Int)} {w : World} (h : Rs w a c L) (en : L.length = n) (g : Rs w b d M) (em : M.length = n) (hs : (Sl.sq L && Sl.sq M && decide ((n : Int) = n)) = true) :
    Calls Try.prog 19 #[.slice a n c, .slice b n d] w fun e w' => ∃ G, e = .returned (.tuple #[.slice (some ⟨G, 0, none⟩) n n, .bool (anyB (fun i => anyB (fun j => db (rw' (colsL M n) j) (rw' L i)) n) n)]) ∧ ∃ x : Ext w, w' = x.u ∧ Rs x.u (some ⟨G, 0, none⟩) n (mkR (fun i => Ma.mk (fun j => dv (rw' (colsL M n) j) (rw' L i)) n) n) := by
  obtain ⟨h6, -, hr1, hr2⟩ := both_ok hs en em
  have hmk1 := run_make_row' (P := Try.prog) 22 23 (.slice none 0 0) 24 Try.underlying22 infoS rfl .i64 .i64 n (by omega) (by omega)
  obtain ⟨Q1, hQ1⟩ : ∃ Q1 : Nat → Bool, Q1 = fun i => anyB (fun j => db (rw' (colsL M n) j) (rw' L i)) n := ⟨_, rfl⟩
  rw [← hQ1]
  replace hQ1 : Hid (Q1 = fun i => anyB (fun j => db (rw' (colsL M n) j) (rw' L i)) n) := hQ1
  go_enter Try.func19, Try.ntmps19
  go_wp2_with (first | (go_at_call 38; refine (alike_c _ h en g em).mono ?_; rw [hs]; rintro e w' ⟨rfl, x, rfl⟩; have hm0 := x.h; replace h := h.ext x; replace g := g.ext x; generalize x.u = W0 at *; clear x) | (go_at_call 39; refine (lined_c 40 column_enters _ (fun i => col M i) n h6.2 _ (fun i hi => by rw [col_length]; exact em) (fun W m i hi => column_c W (g.mr m) em h6.2 i (fun k hk => by rw [hr2 k hk]; exact hi))).mono ?_; rintro e w' ⟨G1, R1, rfl, x, rfl, hO1⟩; have hm1 := hm0.trans x.h; replace h := h.ext x; replace g := g.ext x; have hM : Rs x.u (some ⟨G1, 0, none⟩) n (colsL M n) := hO1.done (by unfold maxLen; omega) (fun i j hi hj => by rw [gt_cl8 M em hj]; exact gt_bd g em hj i); generalize x.u = W1 at *; clear x))
  go_loopw [9, 29] (fun F i wr => ∃ k : Nat, k ≤ n ∧ i = .int .i64 k ∧ F = .bool (anyB Q1 k) ∧ Of W1.heap.size wr W1.heap.size n k (fun i => Ma.mk (fun j => dv (rw' (colsL M n) j) (rw' L i)) n) ∧ Mr W1 wr) (fun _ i _ => (n - (intOf i).toNat))
  case atStart => exact ⟨0, by omega, rfl, by simp [anyB], Of.nil _ _ _, (by repeat (first | (with_reducible exact Mr.refl _) | (with_reducible assumption) | (with_reducible apply Mr.drew) | (with_reducible apply Mr.alloc) | (with_reducible apply Mr.ext) | (with_reducible refine Mr.setCell ?_ (by first | (simp; done) | (simp; omega) | omega | (refine leOf0 ?_; (repeat (first | (with_reducible exact Mr.refl _) | (with_reducible apply Mr.drew) | (with_reducible apply Mr.alloc) | (with_reducible apply Mr.ext) | (with_reducible refine Mr.setCell ?_ (by first | (simp; done) | (simp; omega) | omega) _))); done) | (refine leOf ?_; (repeat (first | (with_reducible exact Mr.refl _) | (with_reducible apply Mr.drew) | (with_reducible apply Mr.alloc) | (with_reducible apply Mr.ext) | (with_reducible refine Mr.setCell ?_ (by first | (simp; done) | (simp; omega) | omega) _))); done)) _)))⟩
  case round =>
    obtain ⟨k, hk, rfl, rfl, hO, hmW⟩ := hrel
    by_cases hlt : k < n
    · have hlt' : (k : Int) < n := by omega
      obtain ⟨b1, o1, ra, rc, rfl, hb1, hc1, hI⟩ := (h.mr hmW).row k (by omega)
      obtain ⟨q, hq⟩ : ∃ q, (rw' L k).length = q := ⟨_, rfl⟩
      rw [hq] at hc1
      have hF : Hid (anyB Q1 (k + 1) = (anyB Q1 k || Q1 k)) := anyB_succ _ _
      have hY : anyB (fun j => db (rw' (colsL M n) j) (rw' L k)) n = Q1 k := by rw [hQ1.out]
      have hrow : ∀ (W : World) (G2 : Nat), W.rowIs G2 3 n (fun j => .int .i64 (dv (rw' (colsL M n) j) (rw' L k))) → Rw W (.slice (some ⟨G2, 0, none⟩) n n) (Ma.mk (fun j => dv (rw' (colsL M n) j) (rw' L k)) n) := fun W G2 hr => ⟨_, _, by rw [mk_length], is_rowIs hr (by unfold maxLen; omega) (fun j _ => dv_bd _ _), fun b o e => by
        simp only [Option.some.injEq, Addr.mk.injEq] at e
        obtain ⟨rfl, -⟩ := e
        obtain ⟨cc, hcc, -, -⟩ := hr
        exact ⟨_, _, hcc⟩⟩
      generalize Q1 k = Y at *
      clear h g hr1 hr2 hs hO1 hQ1
      generalize hFF : anyB Q1 k = F at *
      clear hFF
      cases F
      all_goals
        go_wp2_with (first | (go_at_call 41; refine (dots_c _ (hM.mr hmW) (colsL_length _ _) h6.2 hI hq).mono ?_; rw [hY]; rintro e w' ⟨G2, rfl, x, rfl, hro⟩; have hm2 := hmW.trans x.h; have hO2 := hO.mr x.h; have hrw := hrow _ _ hro; generalize x.u = W2 at *; clear x; obtain ⟨hGl, ⟨V9, hcl9⟩, hfz9⟩ := hO2.at' hlt; have hP := hO2.push hrw))
        go_roundw
        case rel => exact ⟨k + 1, by omega, by go_num, by rw [hF.out]; simp, hP, hm2.setCell (by simp) _⟩
        case measure => simp [intOf]; omega
    · obtain rfl : k = n := by omega
      have hD := hO.done (by unfold maxLen; omega)
      have hmw := hm1.trans hmW
      clear h g hr1 hr2 hs hO1 hO hM
      obtain ⟨F, hFe⟩ : ∃ F, anyB Q1 k = F := ⟨_, rfl⟩
      rw [hFe]
      replace hFe : Hid (anyB Q1 k = F) := hFe
      go_wp2
      go_ret2
      exact ⟨_, by rw [hFe.out]; rfl, ⟨_, hmw⟩, rfl, hD⟩
theorem colsL_col {M : List (List Int)} {n : Nat} (em : M.length = n) {j : Nat} (hj : j < n) : rw' (colsL M n) j = col M j := by
  unfold colsL
  rw [rw_mkR _ _ _ hj]
  apply list_eq (by rw [mk_length, col_length, em])
  intro q hq
  rw [mk_length] at hq
  rw [gt_mk, if_pos hq]
theorem anyB_congr {p q : Nat → Bool} {n : Nat} (h : ∀ i, i < n → p i = q i) : anyB p n = anyB q n := by
  induction n with
  | zero => rfl
  | succ n ih => rw [anyB_succ, anyB_succ, ih (fun i hi => h i (by omega)), h n (by omega)]
theorem mmul_u {a b : Option Addr} {c d n m : Nat} {L M : List (List Int)} {w : World} (h : Rs w a c L) (en : L.length = n) (g : Rs w b d M) (em : M.length = m) : Ret2 Try.prog 19 #[.slice a n c, .slice b m d] w (mulL L M) (mulF L M) := by
  unfold Ret2 mulL mulF
  cases hs : ok2 L M
  · unfold ok2 at hs
    rw [en, em] at hs
    simp only [Bool.false_eq_true, if_false]
    go_enter Try.func19, Try.ntmps19
    go_wp2_with (first | (go_at_call 38; refine (alike_c _ h en g em).mono ?_; rw [hs]; rintro e w' ⟨rfl, x, rfl⟩; have hm0 := x.h; replace h := h.ext x; replace g := g.ext x; generalize x.u = W0 at *; clear x))
    go_ret2
    exact ⟨none, 0, rfl, ⟨_, hm0⟩, rfl, rs_nil _⟩
  · unfold ok2 at hs
    rw [en, em] at hs
    obtain ⟨h6, hnm, hr1, hr2⟩ := both_ok hs en em
    subst hnm
    simp only [if_true]
    refine (mul1_c h en g em hs).mono ?_
    rintro e w' ⟨G, rfl, x, rfl, hR⟩
    have e1 : mkR (mulR L M) L.length = mkR (fun i => Ma.mk (fun j => dv (rw' (colsL M n) j) (rw' L i)) n) n := by
      rw [en]
      refine mkR_congr (fun i hi => ?_)
      unfold mulR
      rw [en]
      exact mk_congr (fun j hj => by rw [colsL_col em hj, dv_comm])
    have e2 : anyB (mulB L M) L.length = anyB (fun i => anyB (fun j => db (rw' (colsL M n) j) (rw' L i)) n) n := by
      rw [en]
      refine anyB_congr (fun i hi => ?_)
      unfold mulB
      rw [en]
      exact anyB_congr (fun j hj => by rw [colsL_col em hj, db_comm])
    rw [e1, e2, mkR_length]
    exact ⟨_, _, rfl, x, rfl, hR⟩
end Ma
end Go.Proofs.Ytpammdogkkipbaa
