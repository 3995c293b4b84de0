/- The contracts of package mat, second part: what reckons. -/
import Derived.Test.YtkhfkfofggiadaaMatC1
import Derived.Test.YtkhfkfofggiadaaMatN
import Derived.Test.YtkhfkfofggiadaaSumC
import Derived.Test.YtkhfkfofggiadaaSumC3
namespace Go.Proofs.Ytkhfkfofggiadaa
open Go.ChangeShapes Go.WideShapes Go.ChangeAt Go.RowKit Go.Shelf
open Go.Proofs.Ytkhfkfofggiadaa.Fx Go.Proofs.Ytkhfkfofggiadaa.Sl Go.Proofs.Ytkhfkfofggiadaa.Sm Go.Proofs.Ytkhfkfofggiadaa.Vc
set_option linter.unusedVariables false
attribute [local go_sem] Ext.cell Ext.froz Ext.lt Ext.lt1 Ext.lt2 Ext.lt3 Ext.all Ext.set_u drew_heap setCell_size Ext.set_size
namespace Ma
theorem dot_n8 {a b : Option Addr} {c d n k : Nat} {l m : List Int} {w : World} (h : Sl.Is w a c l) (g : Sl.Is w b d m) (hn : l.length = n) (hk : m.length = k) :
    Calls Try.prog 50 #[.slice a n c, .slice b k d] w fun e w' => e = .returned (.tuple #[.int .i64 (dv l m), .bool (db l m)]) ∧ ∃ x : Ext w, w' = x.u := by
  subst hn; subst hk; exact dot_c a b c d l m w h g
theorem dv_bd (l m : List Int) : -9223372036854775808 ≤ dv l m ∧ dv l m ≤ 9223372036854775807 := by
  have := cl_bd (Sc.rn (dz l m))
  unfold dv; omega
set_option maxRecDepth 100000 in
set_option maxHeartbeats 2000000 in
/-- The sum of products of each line with a list. -/
theorem dots_c {a b : Option Addr} {c d n m : Nat} {L : List (List Int)} {v : List Int} (w : World) (h : Rs w a c L) (en : L.length = n) (h6 : n ≤ 6) (g : Is w b d v) (em : v.length = m) :
    Calls Try.prog 34 #[.slice a n c, .slice b m d] w fun e w' => ∃ G, e = .returned (.tuple #[.slice (some ⟨G, 0, none⟩) n n, .bool (anyB (fun i => db (rw' L i) v) n)]) ∧ ∃ x : Ext w, w' = x.u ∧ x.u.rowIs G 3 n (fun i => .int .i64 (dv (rw' L i) v)) := by
  have hmk2 := run_make_row' (P := Try.prog) 23 3 (.int .i64 0) 8 Try.underlying23 infoI rfl .i64 .i64 n (by omega) (by omega)
  go_enter Try.func34, Try.ntmps34
  go_wp2
  go_loopw [7, 17] (fun f i wr => ∃ k : Nat, k ≤ n ∧ i = .int .i64 k ∧ f = .bool (anyB (fun i => db (rw' L i) v) k) ∧ wr.rowIs w.heap.size 3 n (fun p => .int .i64 (if p < k then dv (rw' L p) v else 0)) ∧ Mr w wr) (fun _ i _ => (n - (intOf i).toNat))
  case atStart => exact ⟨0, by omega, rfl, by simp [anyB], (World.rowIs_made w (.int .i64 0) n 3).congr (fun i _ => by rw [if_neg (by omega)]), (by repeat (first | (with_reducible exact Mr.refl _) | (with_reducible assumption) | (with_reducible apply Mr.drew) | (with_reducible apply Mr.alloc) | (with_reducible apply Mr.ext) | (with_reducible refine Mr.setCell ?_ (by first | (simp; done) | (simp; omega) | omega | (refine leOf0 ?_; (repeat (first | (with_reducible exact Mr.refl _) | (with_reducible apply Mr.drew) | (with_reducible apply Mr.alloc) | (with_reducible apply Mr.ext) | (with_reducible refine Mr.setCell ?_ (by first | (simp; done) | (simp; omega) | omega) _))); done) | (refine leOf ?_; (repeat (first | (with_reducible exact Mr.refl _) | (with_reducible apply Mr.drew) | (with_reducible apply Mr.alloc) | (with_reducible apply Mr.ext) | (with_reducible refine Mr.setCell ?_ (by first | (simp; done) | (simp; omega) | omega) _))); done)) _)))⟩
  case round =>
    obtain ⟨k, hk, rfl, rfl, hO, hm⟩ := hrel
    by_cases hlt : k < n
    · have hlt' : (k : Int) < n := by omega
      obtain ⟨b1, o1, ra, rc, rfl, hb1, hc1, hI⟩ := (h.mr hm).row k (by omega)
      have hP : ∀ W, Mr wr W → W.rowIs w.heap.size 3 n (fun p => .int .i64 (if p < k then dv (rw' L p) v else 0)) := fun W m => rowIs_mr hO m
      have hN : ∀ W : World, W.rowIs w.heap.size 3 n (fun p => .int .i64 (if p < k then dv (rw' L p) v else 0)) → (W.setCell ⟨w.heap.size, k, none⟩ (.int .i64 (dv (rw' L k) v))).rowIs w.heap.size 3 n (fun p => .int .i64 (if p < k + 1 then dv (rw' L p) v else 0)) := fun W hW => (hW.set k _).congr (fun i hi => by
        by_cases e : i = k
        · subst e; rw [if_pos rfl, if_pos (by omega)]
        · rw [if_neg e]
          by_cases l : i < k
          · rw [if_pos l, if_pos (by omega)]
          · rw [if_neg l, if_neg (by omega)])
      have hF : Hid (anyB (fun i => db (rw' L i) v) (k + 1) = (anyB (fun i => db (rw' L i) v) k || db (rw' L k) v)) := anyB_succ _ _
      obtain ⟨q, hq⟩ : ∃ q, (rw' L k).length = q := ⟨_, rfl⟩
      obtain ⟨X, hX⟩ : ∃ X, dv (rw' L k) v = X := ⟨_, rfl⟩
      obtain ⟨Y, hY⟩ : ∃ Y, db (rw' L k) v = Y := ⟨_, rfl⟩
      rw [hq] at hc1
      rw [hX] at hN
      rw [hY] at hF
      clear hO h
      generalize hFF : anyB (fun i => db (rw' L i) v) k = F at *
      clear hFF
      cases F
      all_goals
        go_wp2_with (first | (go_at_call 50; refine (dot_n8 hI (g.mr hm) hq em).mono ?_; rw [hX, hY]; rintro e w' ⟨rfl, x, rfl⟩; have hm1 := hm.trans x.h; have hP1 := hP _ x.h; generalize x.u = W1 at *; clear x; have hg := hP1.lt; have hfz := hP1.frozen k; have hcl := hP1.cell hlt; have hPs := hN W1 hP1))
        go_roundw
        case rel => exact ⟨k + 1, by omega, by go_num, by rw [hF.out]; simp, hPs, hm1.setCell (by simp) _⟩
        case measure => simp [intOf]; omega
    · obtain rfl : k = n := by omega
      have hD := hO.congr (g := fun i => .int .i64 (dv (rw' L i) v)) (fun i hi => by rw [if_pos hi])
      clear hO h g
      obtain ⟨F, hFe⟩ : ∃ F, anyB (fun i => db (rw' L i) v) k = F := ⟨_, rfl⟩
      rw [hFe]
      replace hFe : Hid (anyB (fun i => db (rw' L i) v) k = F) := hFe
      go_wp2
      go_ret2
      exact ⟨_, by rw [hFe.out]; rfl, ⟨_, hm⟩, rfl, hD⟩
/-- Numbers made place by place: those ahead of row k, place q are done. -/
def dn (f : Nat → Nat → Int) (F : Nat → Nat → Int) (k q : Nat) : Nat → Nat → Int := fun i j => if i < k ∨ (i = k ∧ j < q) then f i j else F i j
theorem dn_step {n : Nat} (f F : Nat → Nat → Int) (k q i j : Nat) : up (dn f F k q) k q (f k q) i j = dn f F k (q + 1) i j := by
  unfold up dn
  by_cases e : i = k ∧ j = q
  · obtain ⟨rfl, rfl⟩ := e
    rw [if_pos ⟨rfl, rfl⟩, if_pos (by omega)]
  · rw [if_neg e]
    by_cases l : i < k ∨ (i = k ∧ j < q)
    · rw [if_pos l, if_pos (by omega)]
    · rw [if_neg l, if_neg (by omega)]
theorem dn_here (f F : Nat → Nat → Int) (k q : Nat) : dn f F k q k q = F k q := by unfold dn; rw [if_neg (by omega)]
theorem dn_row {n : Nat} (f F : Nat → Nat → Int) (k i j : Nat) (hj : j < n) : dn f F k n i j = dn f F (k + 1) 0 i j := by
  unfold dn
  by_cases l : i < k ∨ (i = k ∧ j < n)
  · rw [if_pos l, if_pos (by omega)]
  · rw [if_neg l, if_neg (by omega)]
theorem dn_all {n : Nat} (f F : Nat → Nat → Int) (i j : Nat) (hi : i < n) : dn f F n 0 i j = f i j := by unfold dn; rw [if_pos (by omega)]
theorem dn_none (f F : Nat → Nat → Int) (i j : Nat) : dn f F 0 0 i j = F i j := by unfold dn; rw [if_neg (by omega)]
theorem row_enters : ∀ args w, (callFunc 48 args).run Try.prog w = .ok (.enter 48 args) w := enters_of Try.func48 rfl rfl
theorem column_enters : ∀ args w, (callFunc 33 args).run Try.prog w = .ok (.enter 33 args) w := enters_of Try.func33 rfl rfl
set_option maxRecDepth 100000 in
set_option maxHeartbeats 4000000 in
/-- What a function tells of the numbers of two matrices, place by place. -/
theorem paired_c (G1 : Nat) (eg : ∀ args w, (callFunc G1 args).run Try.prog w = .ok (.enter G1 args) w) (f : Int → Int → Int) (p : Int → Int → Bool) {a b : Option Addr} {c d n : Nat} {L M : List (List Int)} (w : World)
    (hc : ∀ {W : World}, Mr w W → ∀ {x y : Int}, B64 x → B64 y → Calls Try.prog G1 #[.int .i64 x, .int .i64 y] W fun e w' => e = .returned (.tuple #[.int .i64 (f x y), .bool (p x y)]) ∧ ∃ z : Ext W, w' = z.u)
    (h : Rs w a c L) (en : L.length = n) (h6 : n ≤ 6) (hr1 : ∀ i, i < n → (rw' L i).length = n) (g : Rs w b d M) (em : M.length = n) (hr2 : ∀ i, i < n → (rw' M i).length = n) :
    Calls Try.prog 28 #[.slice a n c, .slice b n d, .func (.func G1) #[] #[]] w fun e w' => ∃ G R, e = .returned (.tuple #[.slice (some ⟨G, 0, none⟩) n n, .bool (anyB (fun i => anyB (fun j => p (gt (rw' L i) j) (gt (rw' M i) j)) n) n)]) ∧ ∃ x : Ext w, w' = x.u ∧ Om w.heap.size x.u G n R (fun i j => f (gt (rw' L i) j) (gt (rw' M i) j)) := by
  obtain ⟨P1, hP1⟩ : ∃ P1 : Nat → Nat → Bool, P1 = fun i j => p (gt (rw' L i) j) (gt (rw' M i) j) := ⟨_, rfl⟩
  obtain ⟨f1, hf1⟩ : ∃ f1 : Nat → Nat → Int, f1 = fun i j => f (gt (rw' L i) j) (gt (rw' M i) j) := ⟨_, rfl⟩
  have hgoal : (fun i => anyB (fun j => p (gt (rw' L i) j) (gt (rw' M i) j)) n) = (fun i => anyB (P1 i) n) := by rw [hP1]
  rw [hgoal, ← hf1]
  clear hgoal
  obtain ⟨Q1, hQ1⟩ : ∃ Q1 : Nat → Bool, Q1 = fun i => anyB (P1 i) n := ⟨_, rfl⟩
  rw [← hQ1]
  replace hP1 : Hid (P1 = fun i j => p (gt (rw' L i) j) (gt (rw' M i) j)) := hP1
  replace hf1 : Hid (f1 = fun i j => f (gt (rw' L i) j) (gt (rw' M i) j)) := hf1
  replace hQ1 : Hid (Q1 = fun i => anyB (P1 i) n) := hQ1
  go_enter Try.func28, Try.ntmps28
  go_wp2_with (first | (go_at_call 32; refine (lined_c 48 row_enters _ (fun i => rw' L i) n h6 _ hr1 (fun W m i hi => by have := row_c W (h.mr m) en h6 i hi; rwa [hr1 i hi] at this)).mono ?_; rintro e w' ⟨G, R, rfl, x, rfl, hO0⟩; have hm0 := x.h; generalize x.u = W0 at *; clear x))
  go_loopw [9, 23] (fun F i wr => ∃ k : Nat, k ≤ n ∧ i = .int .i64 k ∧ F = .bool (anyB Q1 k) ∧ Om w.heap.size wr G n R (dn f1 (fun i j => gt (rw' L i) j) k 0) ∧ Mr w wr) (fun _ i _ => (n - (intOf i).toNat))
  case atStart => exact ⟨0, by omega, rfl, by simp [anyB], hO0.congr (fun i j _ _ => by rw [dn_none]), hm0⟩
  case round =>
    clear hO0 hm0
    obtain ⟨k, hk, rfl, rfl, hO', hm'⟩ := hrel
    have hcall := @hc
    clear hc
    by_cases hlt : k < n
    · have hlt' : (k : Int) < n := by omega
      obtain ⟨hg, hRk, hRl, hcl⟩ := hO'.at' k hlt
      go_wp2
      go_loopw [9, 30] (fun F j wr => ∃ q : Nat, q ≤ n ∧ j = .int .i64 q ∧ F = .bool (anyB Q1 k || anyB (P1 k) q) ∧ Om w.heap.size wr G n R (dn f1 (fun i j => gt (rw' L i) j) k q) ∧ Mr w wr) (fun _ j _ => (n - (intOf j).toNat))
      case atStart => exact ⟨0, by omega, rfl, by simp [anyB], hO', hm'⟩
      case round =>
        clear hO' hm' hg hRl hcl
        obtain ⟨q, hq, rfl, rfl, hO, hm⟩ := hrel
        by_cases hqt : q < n
        · have hqt' : (q : Int) < n := by omega
          obtain ⟨hg, -, hRl, hcl⟩ := hO.at' k hlt
          obtain ⟨hcl2, hfz2⟩ := hO.num k q hlt hqt
          rw [dn_here] at hcl2
          obtain ⟨b1, o1, ra1, rc1, rfl, hb1, hc1, hI1⟩ := (g.mr hm).row k (by omega)
          rw [hr2 k hlt] at hc1
          have hbY := hI1.bd q
          have hbX : B64 (gt (rw' L k) q) := by obtain ⟨b9, o9, ra9, rc9, -, -, -, hI9⟩ := h.row k (by omega); exact hI9.bd q
          obtain ⟨b2, o2, rfl, hb2, hc2⟩ := hI1.num q (by rw [hr2 k hlt]; exact hqt)
          have hset : ∀ W : World, Om w.heap.size W G n R (dn f1 (fun i j => gt (rw' L i) j) k q) → Om w.heap.size (W.setCell ⟨R k, q, none⟩ (.int .i64 (f1 k q))) G n R (dn f1 (fun i j => gt (rw' L i) j) k (q + 1)) := fun W hW => (hW.set k q hlt (f1 k q)).congr (fun i j _ _ => dn_step (n := n) f1 _ k q i j)
          have hF : Hid ((anyB Q1 k || anyB (P1 k) (q + 1)) = ((anyB Q1 k || anyB (P1 k) q) || P1 k q)) := by rw [Hid, anyB_succ, Bool.or_assoc]
          have hA : f (gt (rw' L k) q) (gt (rw' M k) q) = f1 k q := by rw [hf1.out]
          have hB : p (gt (rw' L k) q) (gt (rw' M k) q) = P1 k q := by rw [hP1.out]
          generalize f1 k q = A1 at *
          generalize P1 k q = B1 at *
          clear hI1 h g hr1 hr2 hP1 hf1 hQ1
          generalize gt (rw' L k) q = X at *
          generalize gt (rw' M k) q = Y at *
          generalize hFF : (anyB Q1 k || anyB (P1 k) q) = F at *
          clear hFF
          cases F
          all_goals
            go_wp2_with (first | (go_at_fn G1; refine (hcall hm hbX hbY).mono ?_; rw [hA, hB]; rintro e w' ⟨rfl, x, rfl⟩; have hm1 := hm.trans x.h; have hO1 := hO.mr x.h; generalize x.u = W1 at *; clear x; obtain ⟨hcl1, hfz1⟩ := hO1.num k q hlt hqt; have hs1 := hset W1 hO1; clear hO1))
            go_roundw
            case rel => exact ⟨q + 1, by omega, by go_num, by rw [hF.out]; simp, hs1, hm1.setCell (by simpa using hRk) _⟩
            case measure => simp [intOf]; omega
        · obtain rfl : q = n := by omega
          have hF : Hid ((anyB Q1 k || anyB (P1 k) q) = anyB Q1 (k + 1)) := by rw [Hid, anyB_succ, hQ1.out]
          have hO2 := hO.congr (G := dn f1 (fun i j => gt (rw' L i) j) (k + 1) 0) (fun i j _ hj => dn_row f1 _ k i j hj)
          clear h g hr1 hr2 hO hcall hP1 hf1 hQ1
          generalize (anyB Q1 k || anyB (P1 k) q) = F at *
          go_wp2
          go_roundw
          case rel => exact ⟨k + 1, by omega, by go_num, by rw [hF.out], hO2, hm⟩
          case measure => simp [intOf]; omega
    · obtain rfl : k = n := by omega
      have hD := hO'.congr (G := f1) (fun i j hi _ => dn_all f1 _ i j hi)
      clear h g hr1 hr2 hO' hcall
      obtain ⟨F, hFe⟩ : ∃ F, anyB Q1 k = F := ⟨_, rfl⟩
      rw [hFe]
      replace hFe : Hid (anyB Q1 k = F) := hFe
      go_wp2
      go_ret2
      exact ⟨_, _, by rw [hFe.out]; rfl, ⟨_, hm'⟩, rfl, hD⟩
end Ma
end Go.Proofs.Ytkhfkfofggiadaa
