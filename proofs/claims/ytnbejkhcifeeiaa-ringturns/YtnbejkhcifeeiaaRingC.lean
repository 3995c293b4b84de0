/- The contracts of package ring. -/
import Derived.Test.YtnbejkhcifeeiaaRingM
import Derived.Test.YtnbejkhcifeeiaaInsA
import Derived.Test.YtnbejkhcifeeiaaRefC39
import Derived.Maps.AppendAt
import Derived.Laws.Cover3
namespace Go.Proofs.Ytnbejkhcifeeiaa
open Go.ChangeShapes Go.WideShapes Go.ChangeAt Go.RowKit
set_option linter.unusedVariables false
set_option linter.unusedSimpArgs false
attribute [local go_sem] Ext.cell Ext.froz Ext.lt Ext.lt1 Ext.lt2 Ext.lt3 Ext.all Ext.set_u drew_heap setCell_size Ext.set_size
namespace Rg
open Wl Ce Tk Rw
set_option maxHeartbeats 1000000 in
theorem ringed_c (b c : Int) (w : World) :
    Calls Try.prog 27 #[.int .i64 b, .int .i64 c] w fun e w' => e = .returned (.bool (may b c)) ∧ w' = w := by
  have no : ¬ ((0 ≤ b ∧ b ≤ 255) ∧ 1 ≤ c ∧ c ≤ 8) → may b c = false := fun h => by
    cases e : may b c
    · rfl
    · exact absurd (may_iff.1 e) h
  by_cases h1 : 0 ≤ b
  · by_cases h2 : b ≤ 255
    · by_cases h3 : 1 ≤ c
      · by_cases h4 : c ≤ 8
        · have e : may b c = true := may_iff.2 ⟨⟨h1, h2⟩, h3, h4⟩
          rw [e]; clear no e
          go_enter Try.func27, Try.ntmps27
          go_wp2
          go_ret
          first | exact ⟨rfl, rfl⟩ | exact ⟨by rw [h5.out]; rfl, rfl⟩
        · have e := no (by omega)
          rw [e]; clear no e
          have h5 : Hid (decide (c ≤ 8) = false) := decide_eq_false (by omega)
          replace h4 : 8 < c := by omega
          go_enter Try.func27, Try.ntmps27
          go_wp2
          go_ret
          first | exact ⟨rfl, rfl⟩ | exact ⟨by rw [h5.out]; rfl, rfl⟩
      · have e := no (by omega)
        rw [e]; clear no e
        replace h3 : c < 1 := by omega
        go_enter Try.func27, Try.ntmps27
        go_wp2
        go_ret
        first | exact ⟨rfl, rfl⟩ | exact ⟨by rw [h5.out]; rfl, rfl⟩
    · have e := no (by omega)
      rw [e]; clear no e
      replace h2 : 255 < b := by omega
      go_enter Try.func27, Try.ntmps27
      go_wp2
      go_ret
      first | exact ⟨rfl, rfl⟩ | exact ⟨by rw [h5.out]; rfl, rfl⟩
  · have e := no (by omega)
    rw [e]; clear no e
    replace h1 : b < 0 := by omega
    go_enter Try.func27, Try.ntmps27
    go_wp2
    go_ret
    first | exact ⟨rfl, rfl⟩ | exact ⟨by rw [h5.out]; rfl, rfl⟩
set_option maxHeartbeats 1000000 in
/-- An instruction put at a place: where it says nothing of To, it goes on behind it. -/
def fx (q : Nat) (y : Ins) : Ins := if y.go = 0 then ⟨y.k, y.i, y.r, (q : Int) + 1, y.a⟩ else y
def bh (q : Nat) : List Ins → List Ins
  | [] => []
  | y :: Y => fx q y :: bh (q + 1) Y
theorem bh_snoc (q : Nat) (Y : List Ins) (y : Ins) : bh q (Y ++ [y]) = bh q Y ++ [fx (q + Y.length) y] := by
  induction Y generalizing q with
  | nil => rfl
  | cons z Y ih =>
    show fx q z :: bh (q + 1) (Y ++ [y]) = fx q z :: (bh (q + 1) Y ++ [_])
    rw [ih, show q + 1 + Y.length = q + (z :: Y).length by rw [List.length_cons]; omega]
theorem bh_len (q : Nat) (Y : List Ins) : (bh q Y).length = Y.length := by
  induction Y generalizing q with
  | nil => rfl
  | cons z Y ih => show (bh (q + 1) Y).length + 1 = Y.length + 1; rw [ih]
theorem take_snoc {Y : List Ins} {j : Nat} (hj : j < Y.length) : Y.take (j + 1) = Y.take j ++ [at' Y j] := by
  rw [List.take_add_one, List.getElem?_eq_getElem hj, at_get (List.getElem?_eq_getElem hj)]; rfl
theorem inss_grown {w w1 : World} {row : Option Nat} {B o c : Nat} {Y : List Ins} (h : Inss w (some ⟨B, o, none⟩) c Y) (hg : w.grownBy w1 row) (hne : some B ≠ row) : Inss w1 (some ⟨B, o, none⟩) c Y :=
  ⟨⟨h.1.le, h.1.max, h.1.nil, fun hj => by
    obtain ⟨b, o', e, hb, hc⟩ := h.1.at' hj
    simp only [Option.some.injEq, Addr.mk.injEq] at e
    obtain ⟨rfl, rfl, -⟩ := e
    exact ⟨B, o, rfl, Nat.lt_of_lt_of_le hb hg.size, fun i x hi t ht => hg.cell (hc i x hi t ht) hne⟩⟩, h.2⟩
/-- One instruction appended to what a call gathers, with the block in which it lies. -/
theorem append_ins_at {w : World} {ops : Array Oper} {rest : List Oper} {o : Oper} {a : Act} {Q : Exit → Act → World → Prop} (hgd : o.guard = none) (s x : Operand)
    (ho : o.op = .call { callee := .builtin .append, args := #[s, x], argTypes := #[23, 23] }) (base : Nat) (v : Value) (n : Nat) (X : List Ins) (hs : a.eval s = v) (hown : w.ownsRow base 53 5 v n (Lv.flat 5 Ins.enc X))
    {ad : Addr} {c : Nat} {y : Ins} (hx : a.eval x = .slice (some ad) 1 c) (hI : Inss w (some ad) c [y]) (hbytes : n ≤ 1000000) (hbase : base ≤ w.heap.size)
    (h : ∀ v' w', w'.ownsRow base 53 5 v' (n + 1) (Lv.flat 5 Ins.enc (X ++ [y])) → w.grownBy w' v.ownBlock → (v'.ownBlock = v.ownBlock ∨ v'.ownBlock = some w.heap.size) → wpList Try.prog ops Q rest (a.put o.dst v') w') : wpList Try.prog ops Q (o :: rest) a w := by
  obtain ⟨i0, hi, hz0, hz1, hz2⟩ := info_parts3 infoIns
  refine wpList_append_own_at w hgd s x 23 ho base 53 i0 (.agg #[.int .i64 0, .int .i64 0, .int .i64 0, .int .i64 0, .int .u64 0]) 5 40 Try.underlying23 hi hz0 hz1 hz2 rfl (by decide) v n _ hs hown ad 1 c (Lv.flat 5 Ins.enc [y]) hx (by rw [Lv.flat_length]; rfl) (flat_cells5 hI.1) flat_one5 (by unfold maxLen; omega) (by omega) hbase (fun v' w' h1 h2 _ h4 => h v' w' ?_ h2 h4)
  rw [Lv.flat_append]; exact h1
set_option maxRecDepth 100000 in
set_option maxHeartbeats 2000000 in
theorem behind_c {w0 : World} {v : Value} {X Y : List Ins} {B c n k : Nat} (w : World) (m : Mr w0 w) (hv : w.ownsRow w0.heap.size 53 5 v n (Lv.flat 5 Ins.enc X)) (hI : Inss w (some ⟨B, 0, none⟩) c Y) (hk : Y.length = k) (hk0 : k ≤ 1000) (hn : n ≤ 1000) (hB : B < w.heap.size) (hap : v.ownBlock ≠ some B) :
    Calls Try.prog 29 #[v, .slice (some ⟨B, 0, none⟩) k c] w fun e w' => ∃ v', e = .returned v' ∧ Mr w0 w' ∧ w'.ownsRow w0.heap.size 53 5 v' (n + k) (Lv.flat 5 Ins.enc (X ++ bh n Y)) := by
  obtain ⟨a0, c0, rfl, en, -⟩ := Lv.of_owns (by decide) hv
  subst en
  go_enter Try.func29, Try.ntmps29
  go_wp2
  go_loopw [0, 9] (fun u i wr => ∃ j : Nat, j ≤ k ∧ i = .int .i64 j ∧ wr.ownsRow w0.heap.size 53 5 u (X.length + j) (Lv.flat 5 Ins.enc (X ++ bh X.length (Y.take j))) ∧ Mr w0 wr ∧ Inss wr (some ⟨B, 0, none⟩) c Y ∧ B < wr.heap.size ∧ u.ownBlock ≠ some B) (fun _ i _ => k - (intOf i).toNat)
  case atStart => exact ⟨0, by omega, rfl, by rw [List.take_zero]; show World.ownsRow _ _ _ _ _ _ (Lv.flat 5 Ins.enc (X ++ [])); rw [List.append_nil]; exact hv, m, hI, hB, hap⟩
  case round =>
    clear hv hI hB hap m
    obtain ⟨j, hj, rfl, hown, hmr, hI, hB, hap⟩ := hrel
    obtain ⟨a5, c5, rfl, eL, -⟩ := Lv.of_owns (by decide) hown
    have eL2 : (X ++ bh X.length (Y.take j)).length = X.length + j := eL.symm
    rw [eL2] at hown hap ⊢
    clear eL eL2
    generalize hn9 : X.length = n at *
    by_cases hlt : j < k
    · have hq1 : n + (j + 1) = n + j + 1 := rfl
      have hq9 : n + j ≤ 9223372036854775807 := by omega
      have hq8 : n + j ≤ 2000 := by omega
      have hT : bh n (Y.take (j + 1)) = bh n (Y.take j) ++ [fx (n + j) (at' Y j)] := by
        rw [take_snoc (by omega), bh_snoc, List.length_take, Nat.min_eq_left (by omega)]
      replace hT : Hid _ := hT
      generalize hqe : n + j = q at *
      replace hqe : Hid _ := hqe
      replace hq1 : Hid _ := hq1
      obtain ⟨b1, o1, K, I, R, G, A, e1, hb1, e2, hok, hk0', hi0, hr0, hg0, ha0⟩ := hI.num j (by omega)
      simp only [Option.some.injEq, Addr.mk.injEq] at e1
      obtain ⟨rfl, rfl, -⟩ := e1
      rw [Nat.zero_add] at hk0' hi0 hr0 hg0 ha0
      replace e2 : Hid _ := e2
      have hlt' : (j : Int) < k := by omega
      by_cases hg : G = 0
      · subst hg
        have hz : fx q (at' Y j) = ⟨K, I, R, (q : Int) + 1, A⟩ := by rw [e2.out]; unfold fx; rw [if_pos rfl]
        replace hz : Hid _ := hz
        have hok' : Ins.ok ⟨K, I, R, (q : Int) + 1, A⟩ := by unfold Ins.ok at *; dsimp only at *; omega
        have hw1 : wrap64 ((q : Int) + 1) = (q : Int) + 1 := by unfold wrap64; omega
        clear hok
        go_wp2_with (first | (at_builtin; refine append_ins_at rfl _ _ rfl w0.heap.size _ q _ rfl (Lv.owns_mr hown (by repeat (first | (with_reducible exact Mr.refl _) | (with_reducible assumption) | (with_reducible apply Mr.drew) | (with_reducible apply Mr.alloc) | (with_reducible apply Mr.ext) | (with_reducible refine Mr.setCell ?_ (by first | (simp; done) | (simp; omega) | omega | (refine leOf0 ?_; (repeat (first | (with_reducible exact Mr.refl _) | (with_reducible apply Mr.drew) | (with_reducible apply Mr.alloc) | (with_reducible apply Mr.ext) | (with_reducible refine Mr.setCell ?_ (by first | (simp; done) | (simp; omega) | omega) _))); done) | (refine leOf ?_; (repeat (first | (with_reducible exact Mr.refl _) | (with_reducible apply Mr.drew) | (with_reducible apply Mr.alloc) | (with_reducible apply Mr.ext) | (with_reducible refine Mr.setCell ?_ (by first | (simp; done) | (simp; omega) | omega) _))); done)) _)))) rfl (ins_new _ (by simp [World.setCell]) ⟨K, I, R, (q : Int) + 1, A⟩ hok' _ rfl) (by omega) (by have := hmr.below.size; simp [World.setCell]; omega) ?_; intro v' w1 hown' hgrow hat; have hm1 : Mr w0 w1 := Mr.grownBy (w := w0) (by repeat (first | (with_reducible exact Mr.refl _) | (with_reducible assumption) | (with_reducible apply Mr.drew) | (with_reducible apply Mr.alloc) | (with_reducible apply Mr.ext) | (with_reducible refine Mr.setCell ?_ (by first | (simp; done) | (simp; omega) | omega | (refine leOf0 ?_; (repeat (first | (with_reducible exact Mr.refl _) | (with_reducible apply Mr.drew) | (with_reducible apply Mr.alloc) | (with_reducible apply Mr.ext) | (with_reducible refine Mr.setCell ?_ (by first | (simp; done) | (simp; omega) | omega) _))); done) | (refine leOf ?_; (repeat (first | (with_reducible exact Mr.refl _) | (with_reducible apply Mr.drew) | (with_reducible apply Mr.alloc) | (with_reducible apply Mr.ext) | (with_reducible refine Mr.setCell ?_ (by first | (simp; done) | (simp; omega) | omega) _))); done)) _))) hgrow (fun i e => (hown.lt i e).1); have hI1 := inss_grown (Inss.mr hI (by repeat (first | (with_reducible exact Mr.refl _) | (with_reducible assumption) | (with_reducible apply Mr.drew) | (with_reducible apply Mr.alloc) | (with_reducible apply Mr.ext) | (with_reducible refine Mr.setCell ?_ (by first | (simp; done) | (simp; omega) | omega | (refine leOf0 ?_; (repeat (first | (with_reducible exact Mr.refl _) | (with_reducible apply Mr.drew) | (with_reducible apply Mr.alloc) | (with_reducible apply Mr.ext) | (with_reducible refine Mr.setCell ?_ (by first | (simp; done) | (simp; omega) | omega) _))); done) | (refine leOf ?_; (repeat (first | (with_reducible exact Mr.refl _) | (with_reducible apply Mr.drew) | (with_reducible apply Mr.alloc) | (with_reducible apply Mr.ext) | (with_reducible refine Mr.setCell ?_ (by first | (simp; done) | (simp; omega) | omega) _))); done)) _)))) hgrow (fun e => hap e.symm); have hB1 : B < w1.heap.size := (by have := hgrow.size; simp [World.setCell] at this; omega); have hap1 : v'.ownBlock ≠ some B := (by rcases hat with e | e; (· rw [e]; exact hap); (· rw [e]; intro e2; simp [World.setCell] at e2; omega)); clear hgrow hat hmr hI hB hap))
        go_roundw
        case rel => exact ⟨j + 1, by omega, by go_num, by rw [hT.out, hz.out, ← List.append_assoc, hq1.out]; exact hown', hm1, hI1, hB1, hap1⟩
        case measure => simp [intOf]; omega
      · have hz : fx q (at' Y j) = ⟨K, I, R, G, A⟩ := by rw [e2.out]; unfold fx; rw [if_neg hg]
        replace hz : Hid _ := hz
        have hg' : (G == 0) = false := by simpa using hg
        have hok' := hok
        clear hok
        go_wp2_with (first | (at_builtin; refine append_ins_at rfl _ _ rfl w0.heap.size _ q _ rfl (Lv.owns_mr hown (by repeat (first | (with_reducible exact Mr.refl _) | (with_reducible assumption) | (with_reducible apply Mr.drew) | (with_reducible apply Mr.alloc) | (with_reducible apply Mr.ext) | (with_reducible refine Mr.setCell ?_ (by first | (simp; done) | (simp; omega) | omega | (refine leOf0 ?_; (repeat (first | (with_reducible exact Mr.refl _) | (with_reducible apply Mr.drew) | (with_reducible apply Mr.alloc) | (with_reducible apply Mr.ext) | (with_reducible refine Mr.setCell ?_ (by first | (simp; done) | (simp; omega) | omega) _))); done) | (refine leOf ?_; (repeat (first | (with_reducible exact Mr.refl _) | (with_reducible apply Mr.drew) | (with_reducible apply Mr.alloc) | (with_reducible apply Mr.ext) | (with_reducible refine Mr.setCell ?_ (by first | (simp; done) | (simp; omega) | omega) _))); done)) _)))) rfl (ins_new _ (by simp [World.setCell]) ⟨K, I, R, G, A⟩ hok' _ rfl) (by omega) (by have := hmr.below.size; simp [World.setCell]; omega) ?_; intro v' w1 hown' hgrow hat; have hm1 : Mr w0 w1 := Mr.grownBy (w := w0) (by repeat (first | (with_reducible exact Mr.refl _) | (with_reducible assumption) | (with_reducible apply Mr.drew) | (with_reducible apply Mr.alloc) | (with_reducible apply Mr.ext) | (with_reducible refine Mr.setCell ?_ (by first | (simp; done) | (simp; omega) | omega | (refine leOf0 ?_; (repeat (first | (with_reducible exact Mr.refl _) | (with_reducible apply Mr.drew) | (with_reducible apply Mr.alloc) | (with_reducible apply Mr.ext) | (with_reducible refine Mr.setCell ?_ (by first | (simp; done) | (simp; omega) | omega) _))); done) | (refine leOf ?_; (repeat (first | (with_reducible exact Mr.refl _) | (with_reducible apply Mr.drew) | (with_reducible apply Mr.alloc) | (with_reducible apply Mr.ext) | (with_reducible refine Mr.setCell ?_ (by first | (simp; done) | (simp; omega) | omega) _))); done)) _))) hgrow (fun i e => (hown.lt i e).1); have hI1 := inss_grown (Inss.mr hI (by repeat (first | (with_reducible exact Mr.refl _) | (with_reducible assumption) | (with_reducible apply Mr.drew) | (with_reducible apply Mr.alloc) | (with_reducible apply Mr.ext) | (with_reducible refine Mr.setCell ?_ (by first | (simp; done) | (simp; omega) | omega | (refine leOf0 ?_; (repeat (first | (with_reducible exact Mr.refl _) | (with_reducible apply Mr.drew) | (with_reducible apply Mr.alloc) | (with_reducible apply Mr.ext) | (with_reducible refine Mr.setCell ?_ (by first | (simp; done) | (simp; omega) | omega) _))); done) | (refine leOf ?_; (repeat (first | (with_reducible exact Mr.refl _) | (with_reducible apply Mr.drew) | (with_reducible apply Mr.alloc) | (with_reducible apply Mr.ext) | (with_reducible refine Mr.setCell ?_ (by first | (simp; done) | (simp; omega) | omega) _))); done)) _)))) hgrow (fun e => hap e.symm); have hB1 : B < w1.heap.size := (by have := hgrow.size; simp [World.setCell] at this; omega); have hap1 : v'.ownBlock ≠ some B := (by rcases hat with e | e; (· rw [e]; exact hap); (· rw [e]; intro e2; simp [World.setCell] at e2; omega)); clear hgrow hat hmr hI hB hap))
        go_roundw
        case rel => exact ⟨j + 1, by omega, by go_num, by rw [hT.out, hz.out, ← List.append_assoc, hq1.out]; exact hown', hm1, hI1, hB1, hap1⟩
        case measure => simp [intOf]; omega
    · obtain rfl : j = k := by omega
      rw [List.take_of_length_le (by omega)] at hown
      go_wp2
      go_ret
      subst hn9
      exact ⟨Value.slice a5 (X.length + j) c5, rfl, hmr, hown⟩
set_option maxHeartbeats 1000000 in
theorem place_c (b c h : Int) (w : World) (hs : may b c = true) (h0 : 0 ≤ h) :
    Calls Try.prog 30 #[.int .i64 b, .int .i64 c, .int .i64 h] w fun e w' => e = .returned (.int .i64 (pl b c h)) ∧ w' = w := by
  have hb := may_iff.1 hs
  have hp := pl_bd (n := h) hs
  have hq : b + 3 + h % c * 6 = pl b c h := by unfold pl; omega
  have h1 := Int.emod_nonneg h (b := c) (by omega)
  have h2 := Int.emod_lt_of_pos h (b := c) (by omega)
  have h3 : h.tmod c = h % c := Int.tmod_eq_emod_of_nonneg h0
  have h4 : (c == 0) = false := by simp; omega
  have h5 : wrap64 (h % c) = h % c := by unfold wrap64; omega
  have h6 : wrap64 (h % c * 6) = h % c * 6 := by unfold wrap64; omega
  have h7 : wrap64 (b + 3) = b + 3 := by unfold wrap64; omega
  have h8 : wrap64 (b + 3 + h % c * 6) = b + 3 + h % c * 6 := by unfold wrap64; omega
  rw [← hq]
  clear hp hq
  go_enter Try.func30, Try.ntmps30
  go_wp2
  go_ret
  exact ⟨rfl, rfl⟩
set_option maxHeartbeats 1000000 in
theorem gsize_c (c : Int) (w : World) (hc : -9223372036854775808 ≤ c ∧ c ≤ 9223372036854775807) :
    Calls Try.prog 11 #[.int .i64 c] w fun e w' => e = .returned (.int .i64 (size c)) ∧ ∃ x : Ext w, w' = x.u := by
  cases hs : may 0 c
  · have e : size c = 0 := by unfold size; rw [hs]; rfl
    rw [e]
    go_enter Try.func11, Try.ntmps11
    go_wp2_with (first | (go_at_call 27; refine (ringed_c 0 c _).mono ?_; rw [hs]; rintro e w' ⟨rfl, rfl⟩))
    go_ret
    exact ⟨rfl, ⟨_, Mr.refl _⟩, rfl⟩
  · have e : size c = 3 + c * 6 := by unfold size; rw [hs]; show 3 + 6 * c = _; omega
    have := may_iff.1 hs
    have hw1 : wrap64 (c * 6) = c * 6 := by unfold wrap64; omega
    have hw2 : wrap64 (3 + c * 6) = 3 + c * 6 := by unfold wrap64; omega
    rw [e]
    go_enter Try.func11, Try.ntmps11
    go_wp2_with (first | (go_at_call 27; refine (ringed_c 0 c _).mono ?_; rw [hs]; rintro e w' ⟨rfl, rfl⟩))
    go_ret
    exact ⟨rfl, ⟨_, Mr.refl _⟩, rfl⟩
set_option maxRecDepth 100000 in
set_option maxHeartbeats 2000000 in
theorem gpop_f (b c h : Int) (w : World) (hb : -9223372036854775808 ≤ b ∧ b ≤ 9223372036854775807) (hc : -9223372036854775808 ≤ c ∧ c ≤ 9223372036854775807) (hh : -9223372036854775808 ≤ h ∧ h ≤ 9223372036854775807) :
    Calls Try.prog 16 #[.int .i64 b, .int .i64 c, .int .i64 h] w fun e w' => ∃ a k, e = .returned (.slice a (pop b c h).length k) ∧ (∀ q o, a = some ⟨q, o, none⟩ → w.heap.size ≤ q) ∧ ∃ x : Ext w, w' = x.u ∧ Inss x.u a k (pop b c h) := by
  have none_ : pop b c h = [] → ∃ a k, Ending.returned (.slice none 0 0) = .returned (.slice a (pop b c h).length k) ∧ (∀ q o, a = some ⟨q, o, none⟩ → w.heap.size ≤ q) ∧ ∃ x : Ext w, w = x.u ∧ Inss x.u a k (pop b c h) := fun e => by
    rw [e]
    exact ⟨none, 0, rfl, fun _ _ e => (by cases e), ⟨w, Mr.refl w⟩, rfl, ⟨Lv.is_nil none (by simp [maxLen]) (fun _ => rfl), fun x hx => by simp at hx⟩⟩
  cases hs : may b c
  · replace none_ := none_ (by unfold pop; rw [hs]; rfl)
    go_enter Try.func16, Try.ntmps16
    go_wp2_with (first | (go_at_call 27; refine (ringed_c b c _).mono ?_; rw [hs]; rintro e w9 ⟨rfl, hw9⟩; obtain rfl : w = w9 := hw9.symm))
    go_ret
    exact none_
  · by_cases h0 : 0 ≤ h
    · have e : pop b c h = popL b c h := by unfold pop; rw [hs, decide_eq_true h0]; rfl
      rw [e]
      clear none_ e hb hc
      have hb := may_iff.1 hs
      have hp := pl_bd (n := h) hs
      have hT0 : [] ++ bh 0 [⟨0, b + 1, 0, 0, 0⟩, ⟨3, 0, 0, 10, h⟩] = (popL b c h).take 2 := rfl
      have hM : ∀ j, j < 6 → (popL b c h).take (2 + j) ++ bh (2 + j) [⟨0, pl b c h + j, j + 1, 0, 0⟩] = (popL b c h).take (2 + (j + 1)) := fun j hj => by
        have : j = 0 ∨ j = 1 ∨ j = 2 ∨ j = 3 ∨ j = 4 ∨ j = 5 := by omega
        rcases this with rfl | rfl | rfl | rfl | rfl | rfl <;> rfl
      have hL : ∀ j, j ≤ 6 → ((popL b c h).take (2 + j)).length = 2 + j := fun j hj => by rw [List.length_take]; show min (2 + j) 11 = _; omega
      have hE : (popL b c h).take 8 ++ bh 8 [⟨1, b, 0, 0, h + 1⟩, ⟨6, 0, 0, 0, 1⟩, ⟨6, 0, 0, 0, 0⟩] = popL b c h := rfl
      have hA : ∀ x ∈ popL b c h, x.ok := by
        intro x hx
        unfold popL at hx
        simp only [List.mem_cons, List.not_mem_nil, or_false] at hx
        rcases hx with rfl | rfl | rfl | rfl | rfl | rfl | rfl | rfl | rfl | rfl | rfl <;> (unfold Ins.ok; dsimp only; omega)
      have hok0 : ∀ x ∈ ([⟨0, b + 1, 0, 0, 0⟩, ⟨3, 0, 0, 10, h⟩] : List Ins), x.ok := by
        intro x hx
        simp only [List.mem_cons, List.not_mem_nil, or_false] at hx
        rcases hx with rfl | rfl <;> (unfold Ins.ok; dsimp only; omega)
      have hok3 : ∀ x ∈ ([⟨1, b, 0, 0, h + 1⟩, ⟨6, 0, 0, 0, 1⟩, ⟨6, 0, 0, 0, 0⟩] : List Ins), x.ok := by
        intro x hx
        simp only [List.mem_cons, List.not_mem_nil, or_false] at hx
        rcases hx with rfl | rfl | rfl <;> (unfold Ins.ok; dsimp only; omega)
      have hw1 : wrap64 (b + 1) = b + 1 := by unfold wrap64; omega
      have hu0 : IntKind.u64.wrap h = h := by rw [IntKind.wrap_u64]; omega
      have hu1 : IntKind.u64.wrap (h + 1) = h + 1 := by rw [IntKind.wrap_u64]; omega
      go_enter Try.func16, Try.ntmps16
      go_wp2_with (first | (go_at_call 27; refine (ringed_c b c _).mono ?_; rw [hs]; rintro e w9 ⟨rfl, hw9⟩; obtain rfl : w = w9 := hw9.symm) | (go_at_call 29; refine (behind_c (w0 := w) (v := .slice none 0 0) (X := []) (n := 0) (k := 2) (Y := [⟨0, b + 1, 0, 0, 0⟩, ⟨3, 0, 0, 10, h⟩]) _ ((Mr.refl _).alloc _) (World.ownsRow_nil _ _ _ _) (inss_lit _ rfl _ hok0 (by simp) 2 rfl _ rfl) rfl (by omega) (by omega) (by simp) (by simp [Value.ownBlock])).mono ?_; rintro e w1 ⟨v1, rfl, hm1, hown1⟩; rw [hT0] at hown1))
      generalize hpl : popL b c h = L at *
      generalize hP : pl b c h = P at *
      replace hpl : Hid _ := hpl
      replace hP : Hid _ := hP
      replace hE : Hid _ := hE
      replace hA : Hid _ := hA
      replace hL : Hid _ := hL
      replace hM : Hid _ := hM
      clear hT0 hok0
      go_loopw [8, 27] (fun v i wr => ∃ j : Nat, j ≤ 6 ∧ i = .int .i64 j ∧ wr.ownsRow w.heap.size 53 5 v (2 + j) (Lv.flat 5 Ins.enc (L.take (2 + j))) ∧ Mr w wr) (fun _ i _ => (6 - intOf i).toNat)
      case atStart => exact ⟨0, by omega, rfl, hown1, hm1⟩
      case round =>
        clear hown1 hm1
        obtain ⟨j, hj, rfl, hown, hmr⟩ := hrel
        by_cases hlt : j < 6
        · have hT : Hid _ := hM.out j hlt
          have hlt' : (j : Int) < 6 := by omega
          have hok1 : Ins.ok ⟨0, P + j, j + 1, 0, 0⟩ := by unfold Ins.ok; dsimp only; omega
          have hw2 : wrap64 (P + j) = P + j := by unfold wrap64; omega
          have hw3 : wrap64 ((j : Int) + 1) = j + 1 := by unfold wrap64; omega
          go_wp2_with (first | (go_at_call 30; refine (place_c b c h _ hs h0).mono ?_; rw [hP.out]; rintro e w9 ⟨rfl, hw9⟩; obtain rfl := hw9.symm) | (go_at_call 29; refine (behind_c (w0 := w) (X := L.take (2 + j)) (n := 2 + j) (k := 1) (Y := [⟨0, P + j, j + 1, 0, 0⟩]) _ (hmr.alloc _) (Lv.owns_mr hown ((Mr.refl _).alloc _)) (ins_new _ rfl _ hok1 _ rfl) rfl (by omega) (by omega) (by simp) (fun e => by have := (hown.lt _ e).2; omega)).mono ?_; rintro e w2 ⟨v2, rfl, hm2, hown2⟩))
          go_roundw
          case rel => exact ⟨j + 1, by omega, by go_num, by rw [← hT.out]; exact hown2, hm2⟩
          case measure => simp [intOf]; omega
        · obtain rfl : j = 6 := by omega
          clear hp
          go_wp2_with (first | (go_at_call 29; refine (behind_c (w0 := w) (X := L.take 8) (n := 8) (k := 3) (Y := [⟨1, b, 0, 0, h + 1⟩, ⟨6, 0, 0, 0, 1⟩, ⟨6, 0, 0, 0, 0⟩]) _ (hmr.alloc _) (Lv.owns_mr hown ((Mr.refl _).alloc _)) (inss_lit _ rfl _ hok3 (by simp) 3 rfl _ rfl) rfl (by omega) (by omega) (by simp) (fun e => by have := (hown.lt _ e).2; omega)).mono ?_; rintro e w2 ⟨v2, rfl, hm2, hown2⟩; rw [hE.out] at hown2; have hfr := (fun (q : Nat) (e : v2.ownBlock = some q) => (hown2.lt q e).1); obtain ⟨a7, c7, rfl, -, hI7⟩ := Lv.of_owns (by decide) hown2; replace hfr : ∀ q o, a7 = some ⟨q, o, none⟩ → w.heap.size ≤ q := (fun q o e => hfr q (by rw [e]; rfl)); clear hown2; rw [show L.length = 11 from by rw [← hpl.out]; rfl]))
          go_ret
          exact ⟨_, _, rfl, hfr, ⟨_, hm2⟩, rfl, by rw [hpl.out]; exact hI7, by rw [hpl.out]; exact hA.out⟩
    · replace none_ := none_ (by unfold pop; rw [hs, decide_eq_false h0]; rfl)
      replace h0 : h < 0 := by omega
      go_enter Try.func16, Try.ntmps16
      go_wp2_with (first | (go_at_call 27; refine (ringed_c b c _).mono ?_; rw [hs]; rintro e w9 ⟨rfl, hw9⟩; obtain rfl : w = w9 := hw9.symm))
      go_ret
      exact none_
set_option maxRecDepth 100000 in
set_option maxHeartbeats 2000000 in
theorem gpush_f {a : Option Addr} {k n : Nat} {W : List Int} (b c h : Int) (w : World) (hb : -9223372036854775808 ≤ b ∧ b ≤ 9223372036854775807) (hc : -9223372036854775808 ≤ c ∧ c ≤ 9223372036854775807) (hh : -9223372036854775808 ≤ h ∧ h ≤ 9223372036854775807) (g : Wl.Is w a k W) (en : W.length = n) :
    Calls Try.prog 14 #[.int .i64 b, .int .i64 c, .int .i64 h, .slice a n k] w fun e w' => ∃ a k, e = .returned (.slice a (push b c h W).length k) ∧ (∀ q o, a = some ⟨q, o, none⟩ → w.heap.size ≤ q) ∧ ∃ x : Ext w, w' = x.u ∧ Inss x.u a k (push b c h W) := by
  have none_ : push b c h W = [] → ∃ a k, Ending.returned (.slice none 0 0) = .returned (.slice a (push b c h W).length k) ∧ (∀ q o, a = some ⟨q, o, none⟩ → w.heap.size ≤ q) ∧ ∃ x : Ext w, w = x.u ∧ Inss x.u a k (push b c h W) := fun e => by
    rw [e]
    exact ⟨none, 0, rfl, fun _ _ e => (by cases e), ⟨w, Mr.refl w⟩, rfl, ⟨Lv.is_nil none (by simp [maxLen]) (fun _ => rfl), fun x hx => by simp at hx⟩⟩
  have hn9 : n ≤ 9223372036854775807 := by have := g.max; have := g.le; unfold maxLen at *; omega
  cases hs : may b c
  · replace none_ := none_ (by unfold push; rw [hs]; rfl)
    go_enter Try.func14, Try.ntmps14
    go_wp2_with (first | (go_at_call 27; refine (ringed_c b c _).mono ?_; rw [hs]; rintro e w9 ⟨rfl, hw9⟩; obtain rfl : w = w9 := hw9.symm))
    go_ret
    exact none_
  · by_cases h0 : 0 ≤ h
    · by_cases h6 : n = 6
      · subst h6
        have e : push b c h W = pushL b c h W := by unfold push; rw [hs, decide_eq_true h0, decide_eq_true en]; rfl
        rw [e]
        clear none_ e hb hc
        have hb := may_iff.1 hs
        have hp := pl_bd (n := h) hs
        have hT0 : [] ++ bh 0 [⟨0, b, 0, 0, 0⟩, ⟨3, 0, 0, 10, IntKind.u64.wrap (h - c)⟩] = (pushL b c h W).take 2 := rfl
        have hM : ∀ j, j < 6 → (pushL b c h W).take (2 + j) ++ bh (2 + j) [⟨1, pl b c h + j, 0, 0, gt W j⟩] = (pushL b c h W).take (2 + (j + 1)) := fun j hj => by
          have : j = 0 ∨ j = 1 ∨ j = 2 ∨ j = 3 ∨ j = 4 ∨ j = 5 := by omega
          rcases this with rfl | rfl | rfl | rfl | rfl | rfl <;> rfl
        have hL : ∀ j, j ≤ 6 → ((pushL b c h W).take (2 + j)).length = 2 + j := fun j hj => by rw [List.length_take]; show min (2 + j) 12 = _; omega
        have hE : (pushL b c h W).take 8 ++ bh 8 [⟨1, b + 1, 0, 0, h + 1⟩, ⟨6, 0, 0, 0, 1⟩, ⟨2, b + 2, 0, 0, 1⟩, ⟨6, 0, 0, 0, 0⟩] = pushL b c h W := rfl
        have hA : ∀ x ∈ pushL b c h W, x.ok := by
          intro x hx
          have u0 := g.bd 0
          have u1 := g.bd 1
          have u2 := g.bd 2
          have u3 := g.bd 3
          have u4 := g.bd 4
          have u5 := g.bd 5
          have uw := wrap_bd (h - c)
          unfold pushL at hx
          simp only [List.mem_cons, List.not_mem_nil, or_false] at hx
          rcases hx with rfl | rfl | rfl | rfl | rfl | rfl | rfl | rfl | rfl | rfl | rfl | rfl <;> (unfold Ins.ok; dsimp only; omega)
        have hok0 : ∀ x ∈ ([⟨0, b, 0, 0, 0⟩, ⟨3, 0, 0, 10, IntKind.u64.wrap (h - c)⟩] : List Ins), x.ok := by
          intro x hx
          have uw := wrap_bd (h - c)
          simp only [List.mem_cons, List.not_mem_nil, or_false] at hx
          rcases hx with rfl | rfl <;> (unfold Ins.ok; dsimp only; omega)
        have hok3 : ∀ x ∈ ([⟨1, b + 1, 0, 0, h + 1⟩, ⟨6, 0, 0, 0, 1⟩, ⟨2, b + 2, 0, 0, 1⟩, ⟨6, 0, 0, 0, 0⟩] : List Ins), x.ok := by
          intro x hx
          simp only [List.mem_cons, List.not_mem_nil, or_false] at hx
          rcases hx with rfl | rfl | rfl | rfl <;> (unfold Ins.ok; dsimp only; omega)
        have hw1 : wrap64 (b + 1) = b + 1 := by unfold wrap64; omega
        have hw2 : wrap64 (b + 2) = b + 2 := by unfold wrap64; omega
        have hw3 : wrap64 b = b := by unfold wrap64; omega
        have hu0 : IntKind.u64.wrap h = h := by rw [IntKind.wrap_u64]; omega
        have hu2 : IntKind.u64.wrap c = c := by rw [IntKind.wrap_u64]; omega
        have hu1 : IntKind.u64.wrap (h + 1) = h + 1 := by rw [IntKind.wrap_u64]; omega
        go_enter Try.func14, Try.ntmps14
        go_wp2_with (first | (go_at_call 27; refine (ringed_c b c _).mono ?_; rw [hs]; rintro e w9 ⟨rfl, hw9⟩; obtain rfl : w = w9 := hw9.symm) | (go_at_call 29; refine (behind_c (w0 := w) (v := .slice none 0 0) (X := []) (n := 0) (k := 2) (Y := [⟨0, b, 0, 0, 0⟩, ⟨3, 0, 0, 10, IntKind.u64.wrap (h - c)⟩]) _ ((Mr.refl _).alloc _) (World.ownsRow_nil _ _ _ _) (inss_lit _ rfl _ hok0 (by simp) 2 rfl _ rfl) rfl (by omega) (by omega) (by simp) (by simp [Value.ownBlock])).mono ?_; rintro e w1 ⟨v1, rfl, hm1, hown1⟩; rw [hT0] at hown1))
        generalize hpl : pushL b c h W = L at *
        generalize hP : pl b c h = P at *
        replace hpl : Hid _ := hpl
        replace hP : Hid _ := hP
        replace hE : Hid _ := hE
        replace hA : Hid _ := hA
        replace hL : Hid _ := hL
        replace hM : Hid _ := hM
        clear hT0 hok0
        go_loopw [10, 40] (fun v i wr => ∃ j : Nat, j ≤ 6 ∧ i = .int .i64 j ∧ wr.ownsRow w.heap.size 53 5 v (2 + j) (Lv.flat 5 Ins.enc (L.take (2 + j))) ∧ Mr w wr) (fun _ i _ => (6 - intOf i).toNat)
        case atStart => exact ⟨0, by omega, rfl, hown1, hm1⟩
        case round =>
          clear hown1 hm1
          obtain ⟨j, hj, rfl, hown, hmr⟩ := hrel
          by_cases hlt : j < 6
          · have hT : Hid _ := hM.out j hlt
            have hlt' : (j : Int) < 6 := by omega
            have hbj := g.bd j
            obtain ⟨b1, o1, rfl, hb1, hc1⟩ := (g.mr hmr).num j (by omega)
            generalize gt W j = G at *
            have hok1 : Ins.ok ⟨1, P + j, 0, 0, G⟩ := by unfold Ins.ok; dsimp only; omega
            have hw4 : wrap64 (P + j) = P + j := by unfold wrap64; omega
            go_wp2_with (first | (go_at_call 30; refine (place_c b c h _ hs h0).mono ?_; rw [hP.out]; rintro e w9 ⟨rfl, hw9⟩; obtain rfl := hw9.symm) | (go_at_call 29; refine (behind_c (w0 := w) (X := L.take (2 + j)) (n := 2 + j) (k := 1) (Y := [⟨1, P + j, 0, 0, G⟩]) _ (hmr.alloc _) (Lv.owns_mr hown ((Mr.refl _).alloc _)) (ins_new _ rfl _ hok1 _ rfl) rfl (by omega) (by omega) (by simp) (fun e => by have := (hown.lt _ e).2; omega)).mono ?_; rintro e w2 ⟨v2, rfl, hm2, hown2⟩))
            go_roundw
            case rel => exact ⟨j + 1, by omega, by go_num, by rw [← hT.out]; exact hown2, hm2⟩
            case measure => simp [intOf]; omega
          · obtain rfl : j = 6 := by omega
            clear hp
            go_wp2_with (first | (go_at_call 29; refine (behind_c (w0 := w) (X := L.take 8) (n := 8) (k := 4) (Y := [⟨1, b + 1, 0, 0, h + 1⟩, ⟨6, 0, 0, 0, 1⟩, ⟨2, b + 2, 0, 0, 1⟩, ⟨6, 0, 0, 0, 0⟩]) _ (hmr.alloc _) (Lv.owns_mr hown ((Mr.refl _).alloc _)) (inss_lit _ rfl _ hok3 (by simp) 4 rfl _ rfl) rfl (by omega) (by omega) (by simp) (fun e => by have := (hown.lt _ e).2; omega)).mono ?_; rintro e w2 ⟨v2, rfl, hm2, hown2⟩; rw [hE.out] at hown2; have hfr := (fun (q : Nat) (e : v2.ownBlock = some q) => (hown2.lt q e).1); obtain ⟨a7, c7, rfl, -, hI7⟩ := Lv.of_owns (by decide) hown2; replace hfr : ∀ q o, a7 = some ⟨q, o, none⟩ → w.heap.size ≤ q := (fun q o e => hfr q (by rw [e]; rfl)); clear hown2; rw [show L.length = 12 from by rw [← hpl.out]; rfl]))
            go_ret
            exact ⟨_, _, rfl, hfr, ⟨_, hm2⟩, rfl, by rw [hpl.out]; exact hI7, by rw [hpl.out]; exact hA.out⟩
      · replace none_ := none_ (by unfold push; rw [hs, decide_eq_true h0, decide_eq_false (by omega)]; rfl)
        have hne : ((n : Int) != 6) = true := by simp; omega
        go_enter Try.func14, Try.ntmps14
        go_wp2_with (first | (go_at_call 27; refine (ringed_c b c _).mono ?_; rw [hs]; rintro e w9 ⟨rfl, hw9⟩; obtain rfl : w = w9 := hw9.symm))
        go_ret
        exact none_
    · replace none_ := none_ (by unfold push; rw [hs, decide_eq_false h0]; rfl)
      replace h0 : h < 0 := by omega
      go_enter Try.func14, Try.ntmps14
      go_wp2_with (first | (go_at_call 27; refine (ringed_c b c _).mono ?_; rw [hs]; rintro e w9 ⟨rfl, hw9⟩; obtain rfl : w = w9 := hw9.symm))
      go_ret
      exact none_
theorem gpop_c (b c h : Int) (w : World) (hb : -9223372036854775808 ≤ b ∧ b ≤ 9223372036854775807) (hc : -9223372036854775808 ≤ c ∧ c ≤ 9223372036854775807) (hh : -9223372036854775808 ≤ h ∧ h ≤ 9223372036854775807) :
    Calls Try.prog 16 #[.int .i64 b, .int .i64 c, .int .i64 h] w fun e w' => ∃ a k, e = .returned (.slice a (pop b c h).length k) ∧ ∃ x : Ext w, w' = x.u ∧ Inss x.u a k (pop b c h) :=
  (gpop_f b c h w hb hc hh).mono fun _ _ ⟨a, k, h1, _, h2⟩ => ⟨a, k, h1, h2⟩
theorem gpush_c {a : Option Addr} {k n : Nat} {W : List Int} (b c h : Int) (w : World) (hb : -9223372036854775808 ≤ b ∧ b ≤ 9223372036854775807) (hc : -9223372036854775808 ≤ c ∧ c ≤ 9223372036854775807) (hh : -9223372036854775808 ≤ h ∧ h ≤ 9223372036854775807) (g : Wl.Is w a k W) (en : W.length = n) :
    Calls Try.prog 14 #[.int .i64 b, .int .i64 c, .int .i64 h, .slice a n k] w fun e w' => ∃ a k, e = .returned (.slice a (push b c h W).length k) ∧ ∃ x : Ext w, w' = x.u ∧ Inss x.u a k (push b c h W) :=
  (gpush_f b c h w hb hc hh g en).mono fun _ _ ⟨a, k, h1, _, h2⟩ => ⟨a, k, h1, h2⟩
theorem eql_u64s (w : World) (a : Option Addr) (l c : Nat) : (binOp .eql 22 (.slice a l c) (.slice none 0 0)).run Try.prog w = .ok (.bool a.isNone) w := by
  have h := run_equal_slice_nil (P := Try.prog) w 22 24 a l c Try.underlying22
  simp only [binOp, Sem.run_bind, h]
  rfl
set_option maxHeartbeats 1000000 in
theorem cloneu_c {ad : Addr} {c n : Nat} {l : List Int} (w : World) (h : Wl.Is w (some ad) c l) (en : l.length = n) (hn : n ≤ 1000) :
    Calls Try.prog 26 #[.slice (some ad) n c] w fun e w' => ∃ a1 c1, e = .returned (.slice a1 n c1) ∧ ∃ x : Ext w, w' = x.u ∧ Wl.Is x.u a1 c1 l := by
  have heq := eql_u64s
  have hown0 : (w.alloc (.cells #[] 24)).ownsRow w.heap.size 24 1 (.slice (some ⟨w.heap.size, 0, none⟩) 0 0) 0 [] := World.ownsRow_made w #[] 0 (Nat.le_refl _) (by simp [maxLen]) rfl
  go_enter Try.func26, Try.ntmps26
  go_wp2_with (at_builtin; refine append_words rfl _ _ rfl w.heap.size _ 0 [] rfl hown0 rfl (h.mr ((Mr.refl _).alloc _)) en (by omega) (by simp) ?_; intro v' w1 hown hgrow; have hm1 : Mr w w1 := ((Mr.refl w).alloc _).grownBy hgrow (fun j e => Nat.le_of_eq (Option.some.inj e)); simp only [Nat.zero_add, List.nil_append] at hown)
  go_ret
  obtain ⟨a3, c3, rfl, -, hI⟩ := Wl.of_owns hown h.bd
  exact ⟨a3, c3, by rw [en]; rfl, ⟨_, hm1⟩, rfl, hI⟩
set_option maxRecDepth 100000 in
set_option maxHeartbeats 2000000 in
theorem gtaken_c {a : Option Addr} {c : Nat} {t : T} (w : World) (h : Tis w a c t) :
    Calls Try.prog 9 #[.agg (TV a c t)] w fun e w' => ∃ a' c', e = .returned (.tuple #[.slice a' (taken t).length c', .bool (tells t)]) ∧ ∃ x : Ext w, w' = x.u ∧ Wl.Is x.u a' c' (taken t) := by
  obtain ⟨hI, hT⟩ := h
  have h34 := TV_34 (ca := a) (cc := c) hT.len
  have h35 := TV_35 (ca := a) (cc := c) hT.len
  have hR : Row (w.alloc (.cells (TV a c t) 27)) w.heap.size 27 (TV a c t) := Row.new _ _ _
  have hm : Mr w (w.alloc (.cells (TV a c t) 27)) := (Mr.refl w).alloc _
  have hr : ∀ j, j < 32 → (w.alloc (.cells (TV a c t) 27)).cell? ⟨w.heap.size, 2 + j, none⟩ = some (.int .u64 (gt t.R j)) := fun j hj => (hR.cell _).trans (TV_R hT.len hj)
  have hb := hT.reg
  replace h34 := (hR.cell 34).trans h34
  replace h35 := (hR.cell 35).trans h35
  have hB : w.heap.size < (w.alloc (.cells (TV a c t) 27)).heap.size := by simp
  have hw : Wl.Is (w.alloc (.cells (TV a c t) 27)) (some ⟨w.heap.size, 3, none⟩) 31 [gt t.R 1, gt t.R 2, gt t.R 3, gt t.R 4, gt t.R 5, gt t.R 6] := by
    refine ⟨by simp, by simp [maxLen], fun e => (by cases e), fun j hj => ⟨w.heap.size, 3, rfl, hB, fun i hi => ?_⟩, fun j => ?_⟩
    · have hi' : i < 6 := hi
      rw [show 3 + i = 2 + (i + 1) by omega, hr (i + 1) (by omega)]
      have : i = 0 ∨ i = 1 ∨ i = 2 ∨ i = 3 ∨ i = 4 ∨ i = 5 := by omega
      rcases this with rfl | rfl | rfl | rfl | rfl | rfl <;> rfl
    · match j with
      | 0 => exact hb 1
      | 1 => exact hb 2
      | 2 => exact hb 3
      | 3 => exact hb 4
      | 4 => exact hb 5
      | 5 => exact hb 6
      | j + 6 => exact ⟨by show (0 : Int) ≤ gt _ _; unfold gt; simp, by show gt _ _ ≤ (18446744073709551615 : Int); unfold gt; simp⟩
  clear hr hR
  generalize hV : TV a c t = V at *
  have hx : Mr w (w.alloc (.cells V 27)) := hm
  cases hd : t.done
  · have e1 : tells t = false := by unfold tells; rw [hd]; rfl
    have e2 : taken t = [] := by unfold taken; rw [e1]; rfl
    rw [e1, e2]
    rw [hd] at h34
    go_enter Try.func9, Try.ntmps9
    go_wp2
    exact bodyPost_ret (v := .tuple #[.slice none 0 0, .bool false]) (by simp [results, Try.results9, go_sem]) rfl ⟨none, 0, rfl, ⟨_, hm⟩, rfl, Wl.is_nil none (by simp [maxLen]) (fun _ => rfl)⟩
  · rw [hd] at h34
    by_cases ha : t.ans = 1
    · have e1 : tells t = true := by unfold tells; rw [hd, ha]; rfl
      have e2 : taken t = [gt t.R 1, gt t.R 2, gt t.R 3, gt t.R 4, gt t.R 5, gt t.R 6] := by unfold taken; rw [e1]; rfl
      rw [e1, e2]
      rw [ha] at h35
      clear hI hT hb hd ha hV e1 e2
      go_enter Try.func9, Try.ntmps9
      go_wp2_with (first | (go_at_call 26; refine (cloneu_c (n := 6) _ hw rfl (by decide)).mono ?_; rintro r w1 ⟨a1, c1, rfl, x, rfl, hIs⟩))
      exact bodyPost_ret (v := .tuple #[.slice a1 6 c1, .bool true]) (by simp [results, Try.results9, go_sem]) rfl ⟨_, _, rfl, ⟨_, hm.ext x⟩, rfl, hIs⟩
    · have e1 : tells t = false := by unfold tells; rw [hd, decide_eq_false ha]; rfl
      have e2 : taken t = [] := by unfold taken; rw [e1]; rfl
      rw [e1, e2]
      have hne : (t.ans != 1) = true := by simpa using ha
      go_enter Try.func9, Try.ntmps9
      go_wp2
      exact bodyPost_ret (v := .tuple #[.slice none 0 0, .bool false]) (by simp [results, Try.results9, go_sem]) rfl ⟨none, 0, rfl, ⟨_, hm⟩, rfl, Wl.is_nil none (by simp [maxLen]) (fun _ => rfl)⟩
end Rg
end Go.Proofs.Ytnbejkhcifeeiaa
