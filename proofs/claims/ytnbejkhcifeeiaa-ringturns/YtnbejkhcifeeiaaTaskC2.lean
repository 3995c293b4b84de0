/- The statements' own example of layer 12. -/
import Derived.Test.YtnbejkhcifeeiaaTaskC
import Derived.Test.YtnbejkhcifeeiaaRefC29
import Derived.Test.YtnbejkhcifeeiaaTaskM3
import Derived.Test.YtnbejkhcifeeiaaInsA
namespace Go.Proofs.Ytnbejkhcifeeiaa
open Go.ChangeShapes Go.WideShapes Go.ChangeAt Go.RowKit
set_option linter.unusedVariables false
set_option linter.unusedSimpArgs false
attribute [local go_sem] Ext.cell Ext.froz Ext.lt Ext.lt1 Ext.lt2 Ext.lt3 Ext.all drew_heap setCell_size Ext.set_size
namespace Tk
open Wl Ce Rw
def code12 : List Ins := [⟨0, 0, 1, 1, 0⟩, ⟨3, 0, 1, 4, 0⟩, ⟨2, 0, 0, 3, 1⟩, ⟨6, 0, 0, 4, 5⟩]
theorem tis_row {W : World} {ca : Option Addr} {cc U : Nat} {t : T} (h : Tis W ca cc t) (hne : t.code ≠ [] → ∀ b o, ca = some ⟨b, o, none⟩ → b ≠ U) (V : Array Value) : Tis (W.setRow U V) ca cc t :=
  ⟨⟨⟨h.1.1.le, h.1.1.max, h.1.1.nil, fun hj => by
    obtain ⟨b, o, e, hb, hc⟩ := h.1.1.at' hj
    have hs : (W.setRow U V).heap[b]? = W.heap[b]? := by
      unfold World.setRow
      simp only [Array.getElem?_modify]
      rw [if_neg (fun q => hne (List.length_pos_iff.1 hj) b o e q.symm)]
    refine ⟨b, o, e, by simpa [World.setRow] using hb, fun i x hi t ht => ?_⟩
    rw [← hc i x hi t ht]
    exact World.cell?_of_block (a := ⟨b, o + (i * 5 + t), none⟩) hs⟩, h.1.2⟩, h.2⟩
theorem code_step {t : T} {m : List Int} (h : (Tk.stepT t m).code ≠ []) : t.code ≠ [] := by
  intro e
  apply h
  by_cases hd : t.done = true ∨ sane t.code = true
  · rw [step_code m hd]; exact e
  · have : Tk.stepT t m = nought := by
      unfold Tk.stepT
      rw [if_neg (fun q => hd (.inl q)), if_pos (by cases g : sane t.code; rfl; exact absurd (.inr g) hd)]
    rw [this]; rfl
theorem lays_more (ws : List Int) (j : Nat) (hj : j < ws.length) : (lays ws).take (j + 1) = (lays ws).take j ++ [⟨1, j, 0, j + 1, gt ws j⟩] := by
  have e : (lays ws)[j]? = some ⟨1, j, 0, j + 1, gt ws j⟩ := by unfold lays; rw [List.getElem?_map, List.getElem?_range hj]; rfl
  rw [List.take_add_one, e]; rfl
theorem loads_more (k j : Nat) (hj : j < k) : (loads k).take (j + 1) = (loads k).take j ++ [⟨0, j, j, k + j + 1, 0⟩] := by
  have e : (loads k)[j]? = some ⟨0, j, j, k + j + 1, 0⟩ := by unfold loads; rw [List.getElem?_map, List.getElem?_range hj]; rfl
  rw [List.take_add_one, e]; rfl
theorem lays_len (ws : List Int) : (lays ws).length = ws.length := by unfold lays; simp
theorem loads_len (k : Nat) : (loads k).length = k := by unfold loads; simp
theorem ins_ok1 {j : Nat} {z : Int} (hj : j ≤ 1000) (hz : 0 ≤ z ∧ z ≤ 18446744073709551615) : Ins.ok ⟨1, j, 0, j + 1, z⟩ := by
  refine ⟨⟨?_, ?_⟩, ⟨?_, ?_⟩, ⟨?_, ?_⟩, ⟨?_, ?_⟩, hz⟩ <;> simp only <;> omega
theorem ins_ok2 {j k : Nat} (hj : j ≤ 1000) (hk : k ≤ 1000) : Ins.ok ⟨0, j, j, k + j + 1, 0⟩ := by
  refine ⟨⟨?_, ?_⟩, ⟨?_, ?_⟩, ⟨?_, ?_⟩, ⟨?_, ?_⟩, ?_, ?_⟩ <;> simp only <;> omega
theorem ins_ok3 {k : Nat} (hk : k ≤ 1000) : Ins.ok ⟨6, 0, 0, 2 * k + 1, 7⟩ := by
  refine ⟨⟨?_, ?_⟩, ⟨?_, ?_⟩, ⟨?_, ?_⟩, ⟨?_, ?_⟩, ?_, ?_⟩ <;> simp only <;> omega
theorem ins_ok4 {k : Nat} (hk : k ≤ 1000) : Ins.ok ⟨6, 0, 0, k + k + 1, 7⟩ := by
  refine ⟨⟨?_, ?_⟩, ⟨?_, ?_⟩, ⟨?_, ?_⟩, ⟨?_, ?_⟩, ?_, ?_⟩ <;> simp only <;> omega
theorem prog_form {ws : List Int} {q : Nat} (hq : ws.length = q) : lays ws ++ loads q ++ [⟨6, 0, 0, (q : Int) + q + 1, 7⟩] = prog ws := by
  unfold prog
  rw [hq, show (q : Int) + q + 1 = 2 * (q : Int) + 1 by omega]
theorem prog_ok {ws : List Int} (h : ws.length ≤ 20) (hb : Wb ws) : ∀ x ∈ prog ws, x.ok := by
  intro x hx
  unfold prog at hx
  rw [List.mem_append, List.mem_append] at hx
  rcases hx with (hx | hx) | hx
  · unfold lays at hx
    obtain ⟨i, hi, rfl⟩ := List.mem_map.1 hx
    have := List.mem_range.1 hi
    exact ins_ok1 (by omega) (hb i)
  · unfold loads at hx
    obtain ⟨i, hi, rfl⟩ := List.mem_map.1 hx
    have := List.mem_range.1 hi
    exact ins_ok2 (by omega) (by omega)
  · simp only [List.mem_singleton] at hx
    subst hx
    exact ins_ok3 (by omega)
theorem loaded_all {ws : List Int} {q : Nat} (hq : ws.length = q) (h : q ≤ 20) : Tk.runT (most 100) (start (prog ws)) (List.replicate q 0) = (⟨prog ws, (2 * q : Nat), held ws q, true, 7⟩, ws, 2 * q) := by
  subst hq
  exact all_loaded h
theorem tis_start {w : World} {a : Option Addr} {c : Nat} {l : List Ins} (h : Inss w a c l) : Tis w (sa l a) (sc l c) (start l) := by
  unfold sa sc start
  cases hs : sane l
  · exact ⟨inss_nil, tok_nought⟩
  · have hT : Tok ⟨l, 0, zeros, false, 0⟩ := tok_zeros l false 0 (by omega)
    refine ⟨?_, hT.rest hs⟩
    rw [if_pos rfl, if_pos rfl, if_pos rfl, (rest_code _).1]
    exact h
theorem te_load {w W : World} {b o c j : Nat} {L : List Te} {X : Te} (h : Tes w (some ⟨b, o, none⟩) c L) (hX : L[j]? = some X) (m : Mr w W) : (loadCells ⟨b, o + j * 36, none⟩ 36).run Try.prog W = .ok (TV X.ca X.cc X.t) W := by
  obtain ⟨b', o', e', hb', hr⟩ := (h.mr m).range hX
  simp only [Option.some.injEq, Addr.mk.injEq] at e'
  obtain ⟨rfl, rfl, -⟩ := e'
  have hl : (TV X.ca X.cc X.t).toList.length = 36 := by rw [Array.length_toList]; exact TV_size (h.2 X (List.mem_of_getElem? hX)).2.len
  have := run_loadCells_list (P := Try.prog) W ⟨b, o + j * 36, none⟩ (TV X.ca X.cc X.t).toList (fun q v hv => by
    rw [show (⟨b, o + j * 36, none⟩ : Addr).add q = ⟨b, o + j * 36 + q, none⟩ by unfold Addr.add; split <;> simp_all]; exact hr q v hv)
  rw [hl, Array.toArray_toList] at this
  exact this
theorem te_split {w : World} {a : Option Addr} {c j : Nat} {L : List Te} (h : Tes w a c L) (hj : j < L.length) : ∃ b o X, a = some ⟨b, o, none⟩ ∧ L[j]? = some X ∧ Te.is w X := by
  obtain ⟨b, o, e, hb, -⟩ := h.range (List.getElem?_eq_getElem hj)
  exact ⟨b, o, L[j], e, List.getElem?_eq_getElem hj, h.2 _ (List.getElem_mem hj)⟩
/-- Two lists of ints that a call gathers, in blocks of their own. -/
structure Two (B : Nat) (w : World) (v u : Value) (n m : Nat) (xs ys : List Int) : Prop where
  one : w.ownsRow B 3 1 v n (xs.map (Value.int .i64))
  two : w.ownsRow B 3 1 u m (ys.map (Value.int .i64))
  far : ∀ b, v.ownBlock = some b → u.ownBlock ≠ some b
theorem Two.swap {B : Nat} {w : World} {v u : Value} {n m : Nat} {xs ys : List Int} (h : Two B w v u n m xs ys) : Two B w u v m n ys xs := ⟨h.two, h.one, fun b e e' => h.far b e' e⟩
theorem infoI1 : (Try.prog.info? 3).map (fun i => (i.zero, i.size, i.bytes)) = some (some (.int .i64 0), 1, 8) := by kernel_rfl
def oth (n I : Nat) (ps : List Int) : Nat → List Int
  | 0 => []
  | j + 1 => oth n I ps j ++ if (Sl.gt ps j % 65536 % n).toNat = I then [] else [Sl.gt ps j % 65536 % n]
def cnt (n I : Nat) (ps : List Int) : Nat → Nat
  | 0 => 0
  | j + 1 => cnt n I ps j + if (Sl.gt ps j % 65536 % n).toNat = I then 1 else 0
theorem cnt_le (n I : Nat) (ps : List Int) (j : Nat) : cnt n I ps j ≤ j ∧ (oth n I ps j).length ≤ j := by
  induction j with
  | zero => exact ⟨Nat.le_refl _, Nat.le_refl _⟩
  | succ j ih => unfold cnt oth; rw [List.length_append]; split <;> simp <;> omega
theorem oth_mem {n I : Nat} (hn : 0 < n) {ps : List Int} {j : Nat} : ∀ p ∈ oth n I ps j, whom n p ≠ I ∧ 0 ≤ p ∧ p ≤ 65536 := by
  induction j with
  | zero => intro p hp; cases hp
  | succ j ih =>
    intro p hp
    unfold oth at hp
    rw [List.mem_append] at hp
    rcases hp with hp | hp
    · exact ih p hp
    · split at hp
      · cases hp
      · rename_i hne
        simp only [List.mem_singleton] at hp
        subst hp
        have h0 := Int.emod_nonneg (Sl.gt ps j % 65536) (b := (n : Int)) (by omega)
        have h1 := Int.emod_lt_of_pos (Sl.gt ps j % 65536) (b := (n : Int)) (by omega)
        have h2 : Sl.gt ps j % 65536 % (n : Int) ≤ Sl.gt ps j % 65536 := by
          rw [Int.emod_def]
          have : 0 ≤ (n : Int) * (Sl.gt ps j % 65536 / (n : Int)) := Int.mul_nonneg (by omega) (Int.ediv_nonneg (by omega) (by omega))
          omega
        refine ⟨?_, h0, by omega⟩
        unfold whom
        rw [Int.emod_emod_of_dvd _ (Int.dvd_refl _)]
        exact hne
theorem own_mem {n I c : Nat} (hI : I < n) : ∀ p ∈ List.replicate c (I : Int), whom n p = I := fun p hp => by
  rw [List.eq_of_mem_replicate hp]; exact whom_self hI
theorem andffff (n : Int) : bits .and .i64 n 65535 = n % 65536 := by
  have h : (BitVec.ofInt 64 65535).toNat = 2 ^ 16 - 1 := by decide
  have key : (BitVec.ofInt 64 n &&& BitVec.ofInt 64 65535).toNat = (n % ((2 ^ 64 : Nat) : Int)).toNat % 2 ^ 16 := by
    rw [BitVec.toNat_and, BitVec.toNat_ofInt, h, Nat.and_two_pow_sub_one_eq_mod]
  show IntKind.i64.wrap ((BitVec.ofInt 64 n &&& BitVec.ofInt 64 65535).toNat : Nat) = _
  rw [key, IntKind.wrap_i64]
  omega
theorem whom_at {n : Nat} (hn : 0 < n) (p : Int) : ∃ I : Nat, (p % 65536).tmod n = I ∧ I < n ∧ (p % 65536 % n).toNat = I := by
  have h0 := Int.emod_nonneg p (b := 65536) (by omega)
  have h1 := Int.emod_nonneg (p % 65536) (b := (n : Int)) (by omega)
  have h2 := Int.emod_lt_of_pos (p % 65536) (b := (n : Int)) (by omega)
  refine ⟨(p % 65536 % n).toNat, ?_, by omega, rfl⟩
  rw [Int.tmod_eq_emod_of_nonneg h0]
  omega
theorem tk_get2 {L : List Te} {K : Nat} {x : Te} (h : L[K]? = some x) : tk (L.map Te.t) K = x.t := by
  unfold tk
  rw [List.getD_eq_getElem?_getD, List.getElem?_map, h]; rfl
theorem bd_of {l : List Int} (h : ∀ p ∈ l, 0 ≤ p ∧ p ≤ 65536) : ∀ q, -9223372036854775808 ≤ Sl.gt l q ∧ Sl.gt l q ≤ 9223372036854775807 := fun q => by
  unfold Sl.gt
  rw [List.getD_eq_getElem?_getD]
  by_cases g : q < l.length
  · rw [List.getElem?_eq_getElem g]
    have := h l[q] (List.getElem_mem g)
    show _ ≤ l[q] ∧ l[q] ≤ _
    omega
  · rw [List.getElem?_eq_none (by omega)]; simp
theorem rep_bd {I c : Nat} (h : I ≤ 1000) : ∀ q, -9223372036854775808 ≤ Sl.gt (List.replicate c (I : Int)) q ∧ Sl.gt (List.replicate c (I : Int)) q ≤ 9223372036854775807 :=
  bd_of (fun p hp => by rw [List.eq_of_mem_replicate hp]; omega)
theorem most_nat {c : Nat} (h : c ≤ 1000) : most (c : Int) = c := by unfold most; omega
theorem at_of {L' : List Te} {T : List T} (e : L'.map Te.t = T) {i : Nat} (h : i < T.length) : ∃ X, L'[i]? = some X ∧ X.t = tk T i := by
  subst e
  rw [List.length_map] at h
  exact ⟨L'[i], List.getElem?_eq_getElem h, (tk_get2 (List.getElem?_eq_getElem h)).symm⟩
theorem df_le (f g : Nat → Int) (k : Nat) : df f g k ≤ k := by
  induction k with
  | zero => exact Nat.le_refl _
  | succ k ih => unfold df; split <;> omega
theorem aw12_a : (runT (most 9) (start code12) [0]).2.1 = [0] ∧ (runT (most 9) (start code12) [0]).2.2 = 1 ∧ (runT (most 9) (start code12) [0]).1.done = true ∧ (runT (most 9) (start code12) [0]).1.ans = -1 := by
  refine ⟨?_, ?_, ?_, ?_⟩ <;> decide +kernel
theorem aw12_b : (runT (most 9) (start code12) [3]).2.1 = [4] ∧ (runT (most 9) (start code12) [3]).2.2 = 2 ∧ (runT (most 9) (start code12) [3]).1.done = true ∧ (runT (most 9) (start code12) [3]).1.ans = 5 := by
  refine ⟨?_, ?_, ?_, ?_⟩ <;> decide +kernel
theorem aw12_s : sane code12 = true := by decide +kernel
theorem cut1 (z : Int) : (cut [z]).length = 1 := rfl
theorem z36_size2 : (#[Value.slice none 0 0, Value.int IntKind.i64 0, Value.int IntKind.u64 0, Value.int IntKind.u64 0, Value.int IntKind.u64 0, Value.int IntKind.u64 0, Value.int IntKind.u64 0, Value.int IntKind.u64 0, Value.int IntKind.u64 0, Value.int IntKind.u64 0, Value.int IntKind.u64 0, Value.int IntKind.u64 0, Value.int IntKind.u64 0, Value.int IntKind.u64 0, Value.int IntKind.u64 0, Value.int IntKind.u64 0, Value.int IntKind.u64 0, Value.int IntKind.u64 0, Value.int IntKind.u64 0, Value.int IntKind.u64 0, Value.int IntKind.u64 0, Value.int IntKind.u64 0, Value.int IntKind.u64 0, Value.int IntKind.u64 0, Value.int IntKind.u64 0, Value.int IntKind.u64 0, Value.int IntKind.u64 0, Value.int IntKind.u64 0, Value.int IntKind.u64 0, Value.int IntKind.u64 0, Value.int IntKind.u64 0, Value.int IntKind.u64 0, Value.int IntKind.u64 0, Value.int IntKind.u64 0, Value.bool false, Value.int IntKind.i64 0] : Array Value).size = 36 := rfl
end Tk
end Go.Proofs.Ytnbejkhcifeeiaa
