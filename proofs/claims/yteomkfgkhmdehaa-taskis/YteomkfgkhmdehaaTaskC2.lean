/- The statements' own example of layer 12. -/
import Derived.Test.YteomkfgkhmdehaaTaskC
import Derived.Test.YteomkfgkhmdehaaRefC29
import Derived.Test.YteomkfgkhmdehaaTaskM3
import Derived.Test.YteomkfgkhmdehaaRowW
import Derived.Maps.AppendAt
namespace Go.Proofs.Yteomkfgkhmdehaa
open Go.ChangeShapes Go.WideShapes Go.ChangeAt Go.RowKit
set_option linter.unusedVariables false
set_option linter.unusedSimpArgs false
attribute [local go_sem] Ext.cell Ext.froz Ext.lt Ext.lt1 Ext.lt2 Ext.lt3 Ext.all drew_heap setCell_size Ext.set_size
namespace Tk
open Wl Ce Rw
def code12 : List Ins := [⟨0, 0, 1, 1, 0⟩, ⟨3, 0, 1, 4, 0⟩, ⟨2, 0, 0, 3, 1⟩, ⟨6, 0, 0, 4, 5⟩]
def Ins.okB (x : Ins) : Bool := decide (-9223372036854775808 ≤ x.k) && decide (x.k ≤ 9223372036854775807) && decide (-9223372036854775808 ≤ x.i) && decide (x.i ≤ 9223372036854775807) && decide (-9223372036854775808 ≤ x.r) && decide (x.r ≤ 9223372036854775807) && decide (-9223372036854775808 ≤ x.go) && decide (x.go ≤ 9223372036854775807) && decide (0 ≤ x.a) && decide (x.a ≤ 18446744073709551615)
theorem Ins.ok_of {x : Ins} (h : x.okB = true) : x.ok := by
  unfold Ins.okB at h
  simp only [Bool.and_eq_true, decide_eq_true_eq] at h
  unfold Ins.ok
  omega
theorem lit_inss {w : World} (B : Nat) (hB : w.heap.size = B) (xs : List Ins) (n : Nat) (hn : xs.length = n) (h : xs.all Ins.okB = true) (hm : decide (xs.length ≤ 1000) = true) (vs : Array Value) (hv : vs.toList = Lv.flat 5 Ins.enc xs) : Inss (w.alloc (.cells vs 49)) (some ⟨B, 0, none⟩) n xs := by
  subst hB hn
  exact ⟨Lv.of_cells xs (by unfold maxLen; have := of_decide_eq_true hm; omega) vs hv, fun x hx => Ins.ok_of (List.all_eq_true.1 h x hx)⟩
set_option maxHeartbeats 1000000 in
theorem code12_c (w : World) : Calls Try.prog 25 #[] w fun e w' => ∃ a c, e = .returned (.slice a 4 c) ∧ ∃ x : Ext w, w' = x.u ∧ Inss x.u a c code12 := by
  go_enter Try.func25, Try.ntmps25
  go_wp2
  go_ret
  exact ⟨_, _, rfl, ⟨_, (Mr.refl w).alloc _⟩, rfl, lit_inss _ rfl code12 4 rfl (by decide +kernel) (by decide) _ rfl⟩
theorem tis_row {W : World} {ca : Option Addr} {cc U : Nat} {t : T} (h : Tis W ca cc t) (hne : t.code ≠ [] → ∀ b o, ca = some ⟨b, o, none⟩ → b ≠ U) (V : Array Value) : Tis (W.setRow U V) ca cc t :=
  ⟨⟨⟨h.1.1.le, h.1.1.max, h.1.1.nil, fun hj => by
    obtain ⟨b, o, e, hb, hc⟩ := h.1.1.at' hj
    have hs : (W.setRow U V).heap[b]? = W.heap[b]? := by
      unfold World.setRow
      simp only [Array.getElem?_modify]
      rw [if_neg (fun q => hne (List.length_pos_iff.1 hj) b o e q.symm)]
    refine ⟨b, o, e, by simpa [World.setRow] using hb, fun i x hi t ht => ?_⟩
    rw [← hc i x hi t ht]
    exact World.cell?_of_block (a := ⟨b, o + (i * 5 + t), none⟩) hs⟩, h.1.2⟩, h.2⟩
theorem code_step {t : T} {m : List Int} (h : (Tk.stepT t m).code ≠ []) : t.code ≠ [] := by
  intro e
  apply h
  by_cases hd : t.done = true ∨ sane t.code = true
  · rw [step_code m hd]; exact e
  · have : Tk.stepT t m = nought := by
      unfold Tk.stepT
      rw [if_neg (fun q => hd (.inl q)), if_pos (by cases g : sane t.code; rfl; exact absurd (.inr g) hd)]
    rw [this]; rfl
theorem infoIns : (Try.prog.info? 49).map (fun i => (i.zero, i.size, i.bytes)) = some (some (.agg #[.int .i64 0, .int .i64 0, .int .i64 0, .int .i64 0, .int .u64 0]), 5, 40) := by kernel_rfl
theorem flat_one5 {L : List Ins} : ∀ u ∈ Lv.flat 5 Ins.enc L, u.oneCell' = true := by
  intro u hu
  unfold Lv.flat at hu
  rw [List.mem_flatMap] at hu
  obtain ⟨x, hx, hu⟩ := hu
  rw [List.mem_map] at hu
  obtain ⟨j, hj, rfl⟩ := hu
  have : j < 5 := List.mem_range.1 hj
  match j, this with
  | 0, _ => rfl
  | 1, _ => rfl
  | 2, _ => rfl
  | 3, _ => rfl
  | 4, _ => rfl
theorem flat_cells5 {w : World} {ad : Addr} {c : Nat} {L : List Ins} (h : Lv.Is 5 Ins.enc w (some ad) c L) : ∀ j u, (Lv.flat 5 Ins.enc L)[j]? = some u → w.cell? (ad.add j) = some u := by
  intro j u hu
  have hj : j < L.length * 5 := by
    have := (List.getElem?_eq_some_iff.1 hu).1
    rwa [Lv.flat_length] at this
  obtain ⟨b, o, e, hb, hc⟩ := h.at' (by omega)
  simp only [Option.some.injEq] at e
  subst e
  have hi : j / 5 < L.length := by omega
  have e1 := Lv.flat_get (s := 5) (enc := Ins.enc) L (j / 5) L[j / 5] (List.getElem?_eq_getElem hi) (j % 5) (by omega)
  rw [show j / 5 * 5 + j % 5 = j by omega, hu] at e1
  have e2 := hc (j / 5) L[j / 5] (List.getElem?_eq_getElem hi) (j % 5) (by omega)
  rw [show j / 5 * 5 + j % 5 = j by omega, ← e1] at e2
  rw [show (⟨b, o, none⟩ : Addr).add j = ⟨b, o + j, none⟩ by unfold Addr.add; split <;> simp_all]
  exact e2
/-- One instruction appended to what a call gathers. -/
theorem append_ins {w : World} {ops : Array Oper} {rest : List Oper} {o : Oper} {a : Act} {Q : Exit → Act → World → Prop} (hgd : o.guard = none) (s x : Operand)
    (ho : o.op = .call { callee := .builtin .append, args := #[s, x], argTypes := #[24, 24] }) (base : Nat) (v : Value) (n : Nat) (X : List Ins) (hs : a.eval s = v) (hown : w.ownsRow base 49 5 v n (Lv.flat 5 Ins.enc X))
    {ad : Addr} {c : Nat} {y : Ins} (hx : a.eval x = .slice (some ad) 1 c) (hI : Inss w (some ad) c [y]) (hbytes : n ≤ 1000000) (hbase : base ≤ w.heap.size)
    (h : ∀ v' w', w'.ownsRow base 49 5 v' (n + 1) (Lv.flat 5 Ins.enc (X ++ [y])) → w.grownBy w' v.ownBlock → wpList Try.prog ops Q rest (a.put o.dst v') w') : wpList Try.prog ops Q (o :: rest) a w := by
  obtain ⟨i0, hi, hz0, hz1, hz2⟩ := info_parts3 infoIns
  refine wpList_append_own w hgd s x 24 ho base 49 i0 (.agg #[.int .i64 0, .int .i64 0, .int .i64 0, .int .i64 0, .int .u64 0]) 5 40 Try.underlying24 hi hz0 hz1 hz2 rfl (by decide) v n _ hs hown ad 1 c (Lv.flat 5 Ins.enc [y]) hx (by rw [Lv.flat_length]; rfl) (flat_cells5 hI.1) flat_one5 (by unfold maxLen; omega) (by omega) hbase (fun v' w' h1 h2 h3 => h v' w' ?_ h2)
  rw [Lv.flat_append]; exact h1
theorem ins_new {w : World} (B : Nat) (hB : w.heap.size = B) (x : Ins) (hx : x.ok) (vs : Array Value) (hv : vs.toList = Lv.flat 5 Ins.enc [x]) : Inss (w.alloc (.cells vs 49)) (some ⟨B, 0, none⟩) 1 [x] := by
  subst hB
  exact ⟨Lv.of_cells [x] (by simp [maxLen]) vs hv, fun y hy => by simp at hy; subst hy; exact hx⟩
theorem lays_more (ws : List Int) (j : Nat) (hj : j < ws.length) : (lays ws).take (j + 1) = (lays ws).take j ++ [⟨1, j, 0, j + 1, gt ws j⟩] := by
  have e : (lays ws)[j]? = some ⟨1, j, 0, j + 1, gt ws j⟩ := by unfold lays; rw [List.getElem?_map, List.getElem?_range hj]; rfl
  rw [List.take_add_one, e]; rfl
theorem loads_more (k j : Nat) (hj : j < k) : (loads k).take (j + 1) = (loads k).take j ++ [⟨0, j, j, k + j + 1, 0⟩] := by
  have e : (loads k)[j]? = some ⟨0, j, j, k + j + 1, 0⟩ := by unfold loads; rw [List.getElem?_map, List.getElem?_range hj]; rfl
  rw [List.take_add_one, e]; rfl
theorem lays_len (ws : List Int) : (lays ws).length = ws.length := by unfold lays; simp
theorem loads_len (k : Nat) : (loads k).length = k := by unfold loads; simp
theorem ins_ok1 {j : Nat} {z : Int} (hj : j ≤ 1000) (hz : 0 ≤ z ∧ z ≤ 18446744073709551615) : Ins.ok ⟨1, j, 0, j + 1, z⟩ := by
  refine ⟨⟨?_, ?_⟩, ⟨?_, ?_⟩, ⟨?_, ?_⟩, ⟨?_, ?_⟩, hz⟩ <;> simp only <;> omega
theorem ins_ok2 {j k : Nat} (hj : j ≤ 1000) (hk : k ≤ 1000) : Ins.ok ⟨0, j, j, k + j + 1, 0⟩ := by
  refine ⟨⟨?_, ?_⟩, ⟨?_, ?_⟩, ⟨?_, ?_⟩, ⟨?_, ?_⟩, ?_, ?_⟩ <;> simp only <;> omega
theorem ins_ok3 {k : Nat} (hk : k ≤ 1000) : Ins.ok ⟨6, 0, 0, 2 * k + 1, 7⟩ := by
  refine ⟨⟨?_, ?_⟩, ⟨?_, ?_⟩, ⟨?_, ?_⟩, ⟨?_, ?_⟩, ?_, ?_⟩ <;> simp only <;> omega
theorem ins_ok4 {k : Nat} (hk : k ≤ 1000) : Ins.ok ⟨6, 0, 0, k + k + 1, 7⟩ := by
  refine ⟨⟨?_, ?_⟩, ⟨?_, ?_⟩, ⟨?_, ?_⟩, ⟨?_, ?_⟩, ?_, ?_⟩ <;> simp only <;> omega
theorem prog_form {ws : List Int} {q : Nat} (hq : ws.length = q) : lays ws ++ loads q ++ [⟨6, 0, 0, (q : Int) + q + 1, 7⟩] = prog ws := by
  unfold prog
  rw [hq, show (q : Int) + q + 1 = 2 * (q : Int) + 1 by omega]
theorem prog_ok {ws : List Int} (h : ws.length ≤ 20) (hb : Wb ws) : ∀ x ∈ prog ws, x.ok := by
  intro x hx
  unfold prog at hx
  rw [List.mem_append, List.mem_append] at hx
  rcases hx with (hx | hx) | hx
  · unfold lays at hx
    obtain ⟨i, hi, rfl⟩ := List.mem_map.1 hx
    have := List.mem_range.1 hi
    exact ins_ok1 (by omega) (hb i)
  · unfold loads at hx
    obtain ⟨i, hi, rfl⟩ := List.mem_map.1 hx
    have := List.mem_range.1 hi
    exact ins_ok2 (by omega) (by omega)
  · simp only [List.mem_singleton] at hx
    subst hx
    exact ins_ok3 (by omega)
theorem loaded_all {ws : List Int} {q : Nat} (hq : ws.length = q) (h : q ≤ 20) : Tk.runT (most 100) (start (prog ws)) (List.replicate q 0) = (⟨prog ws, (2 * q : Nat), held ws q, true, 7⟩, ws, 2 * q) := by
  subst hq
  exact all_loaded h
theorem tis_start {w : World} {a : Option Addr} {c : Nat} {l : List Ins} (h : Inss w a c l) : Tis w (sa l a) (sc l c) (start l) := by
  unfold sa sc start
  cases hs : sane l
  · exact ⟨inss_nil, tok_nought⟩
  · have hT : Tok ⟨l, 0, zeros, false, 0⟩ := tok_zeros l false 0 (by omega)
    refine ⟨?_, hT.rest hs⟩
    rw [if_pos rfl, if_pos rfl, if_pos rfl, (rest_code _).1]
    exact h
theorem te_load {w W : World} {b o c j : Nat} {L : List Te} {X : Te} (h : Tes w (some ⟨b, o, none⟩) c L) (hX : L[j]? = some X) (m : Mr w W) : (loadCells ⟨b, o + j * 36, none⟩ 36).run Try.prog W = .ok (TV X.ca X.cc X.t) W := by
  obtain ⟨b', o', e', hb', hr⟩ := (h.mr m).range hX
  simp only [Option.some.injEq, Addr.mk.injEq] at e'
  obtain ⟨rfl, rfl, -⟩ := e'
  have hl : (TV X.ca X.cc X.t).toList.length = 36 := by rw [Array.length_toList]; exact TV_size (h.2 X (List.mem_of_getElem? hX)).2.len
  have := run_loadCells_list (P := Try.prog) W ⟨b, o + j * 36, none⟩ (TV X.ca X.cc X.t).toList (fun q v hv => by
    rw [show (⟨b, o + j * 36, none⟩ : Addr).add q = ⟨b, o + j * 36 + q, none⟩ by unfold Addr.add; split <;> simp_all]; exact hr q v hv)
  rw [hl, Array.toArray_toList] at this
  exact this
theorem te_split {w : World} {a : Option Addr} {c j : Nat} {L : List Te} (h : Tes w a c L) (hj : j < L.length) : ∃ b o X, a = some ⟨b, o, none⟩ ∧ L[j]? = some X ∧ Te.is w X := by
  obtain ⟨b, o, e, hb, -⟩ := h.range (List.getElem?_eq_getElem hj)
  exact ⟨b, o, L[j], e, List.getElem?_eq_getElem hj, h.2 _ (List.getElem_mem hj)⟩
/-- Two lists of ints that a call gathers, in blocks of their own. -/
structure Two (B : Nat) (w : World) (v u : Value) (n m : Nat) (xs ys : List Int) : Prop where
  one : w.ownsRow B 3 1 v n (xs.map (Value.int .i64))
  two : w.ownsRow B 3 1 u m (ys.map (Value.int .i64))
  far : ∀ b, v.ownBlock = some b → u.ownBlock ≠ some b
theorem Two.swap {B : Nat} {w : World} {v u : Value} {n m : Nat} {xs ys : List Int} (h : Two B w v u n m xs ys) : Two B w u v m n ys xs := ⟨h.two, h.one, fun b e e' => h.far b e' e⟩
theorem infoI1 : (Try.prog.info? 3).map (fun i => (i.zero, i.size, i.bytes)) = some (some (.int .i64 0), 1, 8) := by kernel_rfl
/-- An int appended to one of them. -/
theorem append_two {w : World} {ops : Array Oper} {rest : List Oper} {o : Oper} {a : Act} {Q : Exit → Act → World → Prop} (hgd : o.guard = none) (s x : Operand)
    (ho : o.op = .call { callee := .builtin .append, args := #[s, x], argTypes := #[25, 25] }) {B : Nat} {v u : Value} {n m : Nat} {xs ys : List Int} (hs : a.eval s = v) (h : Two B w v u n m xs ys) (z : Int)
    (hx : a.eval x = .slice (some ⟨w.heap.size, 0, none⟩) 1 1) (hb : n ≤ 1000000) (hB : B ≤ w.heap.size)
    (hk : ∀ v' w', Two B w' v' u (n + 1) m (xs ++ [z]) ys → (w.alloc (.cells #[.int .i64 z] 3)).grownBy w' v.ownBlock → wpList Try.prog ops Q rest (a.put o.dst v') w') : wpList Try.prog ops Q (o :: rest) a (w.alloc (.cells #[.int .i64 z] 3)) := by
  obtain ⟨i0, hi, hz0, hz1, hz2⟩ := info_parts3 infoI1
  refine wpList_append_own_at _ hgd s x 25 ho B 3 i0 (.int .i64 0) 1 8 Try.underlying25 hi hz0 hz1 hz2 rfl (by decide) v n _ hs (h.one.alloc _) ⟨w.heap.size, 0, none⟩ 1 1 [.int .i64 z] hx rfl ?_ ?_ (by unfold maxLen; omega) (by omega) (by simp; omega) (fun v' w' h1 h2 _ h4 => hk v' w' ⟨?_, ?_, ?_⟩ h2)
  · intro j q hj
    match j, hj with
    | 0, hj => simp at hj; subst hj; simp [Addr.add]
  · intro q hq; simp at hq; subst hq; rfl
  · rw [List.map_append]; exact h1
  · refine (h.two.alloc _).kept h2 ?_
    cases hu : u.ownBlock with
    | none => exact .inl rfl
    | some b => exact .inr (fun e => h.far b e.symm hu)
  · intro b e e'
    rcases h4 with q | q
    · rw [q] at e; exact h.far b e e'
    · rw [q] at e
      have := (h.two.lt b e').2
      simp at e
      omega
def oth (n I : Nat) (ps : List Int) : Nat → List Int
  | 0 => []
  | j + 1 => oth n I ps j ++ if (Sl.gt ps j % 65536 % n).toNat = I then [] else [Sl.gt ps j % 65536 % n]
def cnt (n I : Nat) (ps : List Int) : Nat → Nat
  | 0 => 0
  | j + 1 => cnt n I ps j + if (Sl.gt ps j % 65536 % n).toNat = I then 1 else 0
theorem cnt_le (n I : Nat) (ps : List Int) (j : Nat) : cnt n I ps j ≤ j ∧ (oth n I ps j).length ≤ j := by
  induction j with
  | zero => exact ⟨Nat.le_refl _, Nat.le_refl _⟩
  | succ j ih => unfold cnt oth; rw [List.length_append]; split <;> simp <;> omega
theorem oth_mem {n I : Nat} (hn : 0 < n) {ps : List Int} {j : Nat} : ∀ p ∈ oth n I ps j, whom n p ≠ I ∧ 0 ≤ p ∧ p ≤ 65536 := by
  induction j with
  | zero => intro p hp; cases hp
  | succ j ih =>
    intro p hp
    unfold oth at hp
    rw [List.mem_append] at hp
    rcases hp with hp | hp
    · exact ih p hp
    · split at hp
      · cases hp
      · rename_i hne
        simp only [List.mem_singleton] at hp
        subst hp
        have h0 := Int.emod_nonneg (Sl.gt ps j % 65536) (b := (n : Int)) (by omega)
        have h1 := Int.emod_lt_of_pos (Sl.gt ps j % 65536) (b := (n : Int)) (by omega)
        have h2 : Sl.gt ps j % 65536 % (n : Int) ≤ Sl.gt ps j % 65536 := by
          rw [Int.emod_def]
          have : 0 ≤ (n : Int) * (Sl.gt ps j % 65536 / (n : Int)) := Int.mul_nonneg (by omega) (Int.ediv_nonneg (by omega) (by omega))
          omega
        refine ⟨?_, h0, by omega⟩
        unfold whom
        rw [Int.emod_emod_of_dvd _ (Int.dvd_refl _)]
        exact hne
theorem own_mem {n I c : Nat} (hI : I < n) : ∀ p ∈ List.replicate c (I : Int), whom n p = I := fun p hp => by
  rw [List.eq_of_mem_replicate hp]; exact whom_self hI
theorem andffff (n : Int) : bits .and .i64 n 65535 = n % 65536 := by
  have h : (BitVec.ofInt 64 65535).toNat = 2 ^ 16 - 1 := by decide
  have key : (BitVec.ofInt 64 n &&& BitVec.ofInt 64 65535).toNat = (n % ((2 ^ 64 : Nat) : Int)).toNat % 2 ^ 16 := by
    rw [BitVec.toNat_and, BitVec.toNat_ofInt, h, Nat.and_two_pow_sub_one_eq_mod]
  show IntKind.i64.wrap ((BitVec.ofInt 64 n &&& BitVec.ofInt 64 65535).toNat : Nat) = _
  rw [key, IntKind.wrap_i64]
  omega
theorem whom_at {n : Nat} (hn : 0 < n) (p : Int) : ∃ I : Nat, (p % 65536).tmod n = I ∧ I < n ∧ (p % 65536 % n).toNat = I := by
  have h0 := Int.emod_nonneg p (b := 65536) (by omega)
  have h1 := Int.emod_nonneg (p % 65536) (b := (n : Int)) (by omega)
  have h2 := Int.emod_lt_of_pos (p % 65536) (b := (n : Int)) (by omega)
  refine ⟨(p % 65536 % n).toNat, ?_, by omega, rfl⟩
  rw [Int.tmod_eq_emod_of_nonneg h0]
  omega
theorem tk_get2 {L : List Te} {K : Nat} {x : Te} (h : L[K]? = some x) : tk (L.map Te.t) K = x.t := by
  unfold tk
  rw [List.getD_eq_getElem?_getD, List.getElem?_map, h]; rfl
theorem bd_of {l : List Int} (h : ∀ p ∈ l, 0 ≤ p ∧ p ≤ 65536) : ∀ q, -9223372036854775808 ≤ Sl.gt l q ∧ Sl.gt l q ≤ 9223372036854775807 := fun q => by
  unfold Sl.gt
  rw [List.getD_eq_getElem?_getD]
  by_cases g : q < l.length
  · rw [List.getElem?_eq_getElem g]
    have := h l[q] (List.getElem_mem g)
    show _ ≤ l[q] ∧ l[q] ≤ _
    omega
  · rw [List.getElem?_eq_none (by omega)]; simp
theorem rep_bd {I c : Nat} (h : I ≤ 1000) : ∀ q, -9223372036854775808 ≤ Sl.gt (List.replicate c (I : Int)) q ∧ Sl.gt (List.replicate c (I : Int)) q ≤ 9223372036854775807 :=
  bd_of (fun p hp => by rw [List.eq_of_mem_replicate hp]; omega)
theorem most_nat {c : Nat} (h : c ≤ 1000) : most (c : Int) = c := by unfold most; omega
theorem at_of {L' : List Te} {T : List T} (e : L'.map Te.t = T) {i : Nat} (h : i < T.length) : ∃ X, L'[i]? = some X ∧ X.t = tk T i := by
  subst e
  rw [List.length_map] at h
  exact ⟨L'[i], List.getElem?_eq_getElem h, (tk_get2 (List.getElem?_eq_getElem h)).symm⟩
theorem df_le (f g : Nat → Int) (k : Nat) : df f g k ≤ k := by
  induction k with
  | zero => exact Nat.le_refl _
  | succ k ih => unfold df; split <;> omega
theorem aw12_a : (runT (most 9) (start code12) [0]).2.1 = [0] ∧ (runT (most 9) (start code12) [0]).2.2 = 1 ∧ (runT (most 9) (start code12) [0]).1.done = true ∧ (runT (most 9) (start code12) [0]).1.ans = -1 := by
  refine ⟨?_, ?_, ?_, ?_⟩ <;> decide +kernel
theorem aw12_b : (runT (most 9) (start code12) [3]).2.1 = [4] ∧ (runT (most 9) (start code12) [3]).2.2 = 2 ∧ (runT (most 9) (start code12) [3]).1.done = true ∧ (runT (most 9) (start code12) [3]).1.ans = 5 := by
  refine ⟨?_, ?_, ?_, ?_⟩ <;> decide +kernel
theorem aw12_s : sane code12 = true := by decide +kernel
theorem cut1 (z : Int) : (cut [z]).length = 1 := rfl
theorem z36_size2 : (#[Value.slice none 0 0, Value.int IntKind.i64 0, Value.int IntKind.u64 0, Value.int IntKind.u64 0, Value.int IntKind.u64 0, Value.int IntKind.u64 0, Value.int IntKind.u64 0, Value.int IntKind.u64 0, Value.int IntKind.u64 0, Value.int IntKind.u64 0, Value.int IntKind.u64 0, Value.int IntKind.u64 0, Value.int IntKind.u64 0, Value.int IntKind.u64 0, Value.int IntKind.u64 0, Value.int IntKind.u64 0, Value.int IntKind.u64 0, Value.int IntKind.u64 0, Value.int IntKind.u64 0, Value.int IntKind.u64 0, Value.int IntKind.u64 0, Value.int IntKind.u64 0, Value.int IntKind.u64 0, Value.int IntKind.u64 0, Value.int IntKind.u64 0, Value.int IntKind.u64 0, Value.int IntKind.u64 0, Value.int IntKind.u64 0, Value.int IntKind.u64 0, Value.int IntKind.u64 0, Value.int IntKind.u64 0, Value.int IntKind.u64 0, Value.int IntKind.u64 0, Value.int IntKind.u64 0, Value.bool false, Value.int IntKind.i64 0] : Array Value).size = 36 := rfl
set_option maxRecDepth 100000 in
set_option maxHeartbeats 4000000 in
theorem awake12_c (w : World) : Calls Try.prog 9 #[] w fun e w' => e = .returned (.bool true) ∧ ∃ x : Ext w, w' = x.u := by
  have t1 : Unit := ()
  have t2 : Unit := ()
  go_enter Try.func9, Try.ntmps9
  go_wp2_with (first | (go_at_call 25; refine (code12_c _).mono ?_; rintro e w' ⟨a1, c1, rfl, x1, rfl, hC⟩) | (go_at_call 18; refine (tstart_c _ (hC.mr (by repeat (first | (with_reducible exact Mr.refl _) | (with_reducible assumption) | (with_reducible apply Mr.drew) | (with_reducible apply Mr.alloc) | (with_reducible apply Mr.ext) | (with_reducible refine Mr.setCell ?_ (by first | (simp; done) | (simp; omega) | omega | (refine leOf0 ?_; (repeat (first | (with_reducible exact Mr.refl _) | (with_reducible apply Mr.drew) | (with_reducible apply Mr.alloc) | (with_reducible apply Mr.ext) | (with_reducible refine Mr.setCell ?_ (by first | (simp; done) | (simp; omega) | omega) _))); done) | (refine leOf ?_; (repeat (first | (with_reducible exact Mr.refl _) | (with_reducible apply Mr.drew) | (with_reducible apply Mr.alloc) | (with_reducible apply Mr.ext) | (with_reducible refine Mr.setCell ?_ (by first | (simp; done) | (simp; omega) | omega) _))); done)) _)))) rfl).mono ?_; rintro e w' ⟨ca, cc, rfl, x2, rfl, hT⟩) | (go_at_call 22; (have := t1; clear this t1); refine (tsteps_c _ (hT.mr (by repeat (first | (with_reducible exact Mr.refl _) | (with_reducible assumption) | (with_reducible apply Mr.drew) | (with_reducible apply Mr.alloc) | (with_reducible apply Mr.ext) | (with_reducible refine Mr.setCell ?_ (by first | (simp; done) | (simp; omega) | omega | (refine leOf0 ?_; (repeat (first | (with_reducible exact Mr.refl _) | (with_reducible apply Mr.drew) | (with_reducible apply Mr.alloc) | (with_reducible apply Mr.ext) | (with_reducible refine Mr.setCell ?_ (by first | (simp; done) | (simp; omega) | omega) _))); done) | (refine leOf ?_; (repeat (first | (with_reducible exact Mr.refl _) | (with_reducible apply Mr.drew) | (with_reducible apply Mr.alloc) | (with_reducible apply Mr.ext) | (with_reducible refine Mr.setCell ?_ (by first | (simp; done) | (simp; omega) | omega) _))); done)) _)))) (lit_is _ rfl [0] 1 rfl (by decide +kernel) (by decide) _ rfl) rfl (by decide)).mono ?_; rw [aw12_a.1, aw12_a.2.1, cut1]; rintro e w' ⟨cb, cd, b1, d1, rfl, x3, rfl, hM1, hU1⟩; have m1 : Mr w x3.u := (by repeat (first | (with_reducible exact Mr.refl _) | (with_reducible assumption) | (with_reducible apply Mr.drew) | (with_reducible apply Mr.alloc) | (with_reducible apply Mr.ext) | (with_reducible refine Mr.setCell ?_ (by first | (simp; done) | (simp; omega) | omega | (refine leOf0 ?_; (repeat (first | (with_reducible exact Mr.refl _) | (with_reducible apply Mr.drew) | (with_reducible apply Mr.alloc) | (with_reducible apply Mr.ext) | (with_reducible refine Mr.setCell ?_ (by first | (simp; done) | (simp; omega) | omega) _))); done) | (refine leOf ?_; (repeat (first | (with_reducible exact Mr.refl _) | (with_reducible apply Mr.drew) | (with_reducible apply Mr.alloc) | (with_reducible apply Mr.ext) | (with_reducible refine Mr.setCell ?_ (by first | (simp; done) | (simp; omega) | omega) _))); done)) _))); have k34 := TV_34 (ca := cb) (cc := cd) hU1.2.len; have k35 := TV_35 (ca := cb) (cc := cd) hU1.2.len; rw [aw12_a.2.2.1] at k34; rw [aw12_a.2.2.2] at k35; have hsz := sizeT (ca := cb) (cc := cd) hU1.2.len; have hV := TV_size (ca := cb) (cc := cd) hU1.2.len; have hVo := TV_one cb cd (runT (most 9) (start code12) [0]).1; have hV : Hid _ := hV; generalize TV cb cd (runT (most 9) (start code12) [0]).1 = V1 at *; generalize x3.u = W3 at *; clear x3 hT hC; have hG : Hid (Row (W3.alloc (.cells #[Value.slice none 0 0, Value.int IntKind.i64 0, Value.int IntKind.u64 0, Value.int IntKind.u64 0, Value.int IntKind.u64 0, Value.int IntKind.u64 0, Value.int IntKind.u64 0, Value.int IntKind.u64 0, Value.int IntKind.u64 0, Value.int IntKind.u64 0, Value.int IntKind.u64 0, Value.int IntKind.u64 0, Value.int IntKind.u64 0, Value.int IntKind.u64 0, Value.int IntKind.u64 0, Value.int IntKind.u64 0, Value.int IntKind.u64 0, Value.int IntKind.u64 0, Value.int IntKind.u64 0, Value.int IntKind.u64 0, Value.int IntKind.u64 0, Value.int IntKind.u64 0, Value.int IntKind.u64 0, Value.int IntKind.u64 0, Value.int IntKind.u64 0, Value.int IntKind.u64 0, Value.int IntKind.u64 0, Value.int IntKind.u64 0, Value.int IntKind.u64 0, Value.int IntKind.u64 0, Value.int IntKind.u64 0, Value.int IntKind.u64 0, Value.int IntKind.u64 0, Value.int IntKind.u64 0, Value.bool false, Value.int IntKind.i64 0] 37)) W3.heap.size 37 #[Value.slice none 0 0, Value.int IntKind.i64 0, Value.int IntKind.u64 0, Value.int IntKind.u64 0, Value.int IntKind.u64 0, Value.int IntKind.u64 0, Value.int IntKind.u64 0, Value.int IntKind.u64 0, Value.int IntKind.u64 0, Value.int IntKind.u64 0, Value.int IntKind.u64 0, Value.int IntKind.u64 0, Value.int IntKind.u64 0, Value.int IntKind.u64 0, Value.int IntKind.u64 0, Value.int IntKind.u64 0, Value.int IntKind.u64 0, Value.int IntKind.u64 0, Value.int IntKind.u64 0, Value.int IntKind.u64 0, Value.int IntKind.u64 0, Value.int IntKind.u64 0, Value.int IntKind.u64 0, Value.int IntKind.u64 0, Value.int IntKind.u64 0, Value.int IntKind.u64 0, Value.int IntKind.u64 0, Value.int IntKind.u64 0, Value.int IntKind.u64 0, Value.int IntKind.u64 0, Value.int IntKind.u64 0, Value.int IntKind.u64 0, Value.int IntKind.u64 0, Value.int IntKind.u64 0, Value.bool false, Value.int IntKind.i64 0]) := Row.new _ _ _) | (refine wpList_store_row rfl 37 _ _ rfl W3.heap.size _ rfl rfl 37 _ hG.out hsz (z36_size2.trans hV.out.symm) hVo ?_; have g1 := m1.below.size; have hB1 := Row.row hG.out V1; have m2 := mr_row (m1.alloc (.cells #[Value.slice none 0 0, Value.int IntKind.i64 0, Value.int IntKind.u64 0, Value.int IntKind.u64 0, Value.int IntKind.u64 0, Value.int IntKind.u64 0, Value.int IntKind.u64 0, Value.int IntKind.u64 0, Value.int IntKind.u64 0, Value.int IntKind.u64 0, Value.int IntKind.u64 0, Value.int IntKind.u64 0, Value.int IntKind.u64 0, Value.int IntKind.u64 0, Value.int IntKind.u64 0, Value.int IntKind.u64 0, Value.int IntKind.u64 0, Value.int IntKind.u64 0, Value.int IntKind.u64 0, Value.int IntKind.u64 0, Value.int IntKind.u64 0, Value.int IntKind.u64 0, Value.int IntKind.u64 0, Value.int IntKind.u64 0, Value.int IntKind.u64 0, Value.int IntKind.u64 0, Value.int IntKind.u64 0, Value.int IntKind.u64 0, Value.int IntKind.u64 0, Value.int IntKind.u64 0, Value.int IntKind.u64 0, Value.int IntKind.u64 0, Value.int IntKind.u64 0, Value.int IntKind.u64 0, Value.bool false, Value.int IntKind.i64 0] 37)) (g := W3.heap.size) (by omega) V1; have hMM := hM1.mr (mr_row ((Mr.refl W3).alloc (.cells #[Value.slice none 0 0, Value.int IntKind.i64 0, Value.int IntKind.u64 0, Value.int IntKind.u64 0, Value.int IntKind.u64 0, Value.int IntKind.u64 0, Value.int IntKind.u64 0, Value.int IntKind.u64 0, Value.int IntKind.u64 0, Value.int IntKind.u64 0, Value.int IntKind.u64 0, Value.int IntKind.u64 0, Value.int IntKind.u64 0, Value.int IntKind.u64 0, Value.int IntKind.u64 0, Value.int IntKind.u64 0, Value.int IntKind.u64 0, Value.int IntKind.u64 0, Value.int IntKind.u64 0, Value.int IntKind.u64 0, Value.int IntKind.u64 0, Value.int IntKind.u64 0, Value.int IntKind.u64 0, Value.int IntKind.u64 0, Value.int IntKind.u64 0, Value.int IntKind.u64 0, Value.int IntKind.u64 0, Value.int IntKind.u64 0, Value.int IntKind.u64 0, Value.int IntKind.u64 0, Value.int IntKind.u64 0, Value.int IntKind.u64 0, Value.int IntKind.u64 0, Value.int IntKind.u64 0, Value.bool false, Value.int IntKind.i64 0] 37)) (g := W3.heap.size) (by omega) V1); clear hG m1 hM1 hU1 g1; generalize (W3.alloc (.cells #[Value.slice none 0 0, Value.int IntKind.i64 0, Value.int IntKind.u64 0, Value.int IntKind.u64 0, Value.int IntKind.u64 0, Value.int IntKind.u64 0, Value.int IntKind.u64 0, Value.int IntKind.u64 0, Value.int IntKind.u64 0, Value.int IntKind.u64 0, Value.int IntKind.u64 0, Value.int IntKind.u64 0, Value.int IntKind.u64 0, Value.int IntKind.u64 0, Value.int IntKind.u64 0, Value.int IntKind.u64 0, Value.int IntKind.u64 0, Value.int IntKind.u64 0, Value.int IntKind.u64 0, Value.int IntKind.u64 0, Value.int IntKind.u64 0, Value.int IntKind.u64 0, Value.int IntKind.u64 0, Value.int IntKind.u64 0, Value.int IntKind.u64 0, Value.int IntKind.u64 0, Value.int IntKind.u64 0, Value.int IntKind.u64 0, Value.int IntKind.u64 0, Value.int IntKind.u64 0, Value.int IntKind.u64 0, Value.int IntKind.u64 0, Value.int IntKind.u64 0, Value.int IntKind.u64 0, Value.bool false, Value.int IntKind.i64 0] 37)).setRow W3.heap.size V1 = W4 at *; generalize W3.heap.size = U1 at *; have c34 := (hB1.cell 34).trans k34; have c35 := (hB1.cell 35).trans k35; have l1 := hB1.lt) | (go_at_call 22; refine (tsteps_c _ (hT.mr (by repeat (first | (with_reducible exact Mr.refl _) | (with_reducible assumption) | (with_reducible apply Mr.drew) | (with_reducible apply Mr.alloc) | (with_reducible apply Mr.ext) | (with_reducible refine Mr.setCell ?_ (by first | (simp; done) | (simp; omega) | omega | (refine leOf0 ?_; (repeat (first | (with_reducible exact Mr.refl _) | (with_reducible apply Mr.drew) | (with_reducible apply Mr.alloc) | (with_reducible apply Mr.ext) | (with_reducible refine Mr.setCell ?_ (by first | (simp; done) | (simp; omega) | omega) _))); done) | (refine leOf ?_; (repeat (first | (with_reducible exact Mr.refl _) | (with_reducible apply Mr.drew) | (with_reducible apply Mr.alloc) | (with_reducible apply Mr.ext) | (with_reducible refine Mr.setCell ?_ (by first | (simp; done) | (simp; omega) | omega) _))); done)) _)))) (lit_is _ rfl [3] 1 rfl (by decide +kernel) (by decide) _ rfl) rfl (by decide)).mono ?_; rw [aw12_b.1, aw12_b.2.1, cut1]; rintro e w' ⟨cb2, cd2, b2, d2, rfl, x3, rfl, hM2, hU2⟩; have m3 : Mr W4 x3.u := (by repeat (first | (with_reducible exact Mr.refl _) | (with_reducible assumption) | (with_reducible apply Mr.drew) | (with_reducible apply Mr.alloc) | (with_reducible apply Mr.ext) | (with_reducible refine Mr.setCell ?_ (by first | (simp; done) | (simp; omega) | omega | (refine leOf0 ?_; (repeat (first | (with_reducible exact Mr.refl _) | (with_reducible apply Mr.drew) | (with_reducible apply Mr.alloc) | (with_reducible apply Mr.ext) | (with_reducible refine Mr.setCell ?_ (by first | (simp; done) | (simp; omega) | omega) _))); done) | (refine leOf ?_; (repeat (first | (with_reducible exact Mr.refl _) | (with_reducible apply Mr.drew) | (with_reducible apply Mr.alloc) | (with_reducible apply Mr.ext) | (with_reducible refine Mr.setCell ?_ (by first | (simp; done) | (simp; omega) | omega) _))); done)) _))); have j34 := TV_34 (ca := cb2) (cc := cd2) hU2.2.len; have j35 := TV_35 (ca := cb2) (cc := cd2) hU2.2.len; rw [aw12_b.2.2.1] at j34; rw [aw12_b.2.2.2] at j35; have hsz2 := sizeT (ca := cb2) (cc := cd2) hU2.2.len; have hV2 := TV_size (ca := cb2) (cc := cd2) hU2.2.len; have hVo2 := TV_one cb2 cd2 (runT (most 9) (start code12) [3]).1; have hV2 : Hid _ := hV2; generalize TV cb2 cd2 (runT (most 9) (start code12) [3]).1 = V2 at *; generalize x3.u = W5 at *; clear x3 hT hC; have hH : Hid (Row (W5.alloc (.cells #[Value.slice none 0 0, Value.int IntKind.i64 0, Value.int IntKind.u64 0, Value.int IntKind.u64 0, Value.int IntKind.u64 0, Value.int IntKind.u64 0, Value.int IntKind.u64 0, Value.int IntKind.u64 0, Value.int IntKind.u64 0, Value.int IntKind.u64 0, Value.int IntKind.u64 0, Value.int IntKind.u64 0, Value.int IntKind.u64 0, Value.int IntKind.u64 0, Value.int IntKind.u64 0, Value.int IntKind.u64 0, Value.int IntKind.u64 0, Value.int IntKind.u64 0, Value.int IntKind.u64 0, Value.int IntKind.u64 0, Value.int IntKind.u64 0, Value.int IntKind.u64 0, Value.int IntKind.u64 0, Value.int IntKind.u64 0, Value.int IntKind.u64 0, Value.int IntKind.u64 0, Value.int IntKind.u64 0, Value.int IntKind.u64 0, Value.int IntKind.u64 0, Value.int IntKind.u64 0, Value.int IntKind.u64 0, Value.int IntKind.u64 0, Value.int IntKind.u64 0, Value.int IntKind.u64 0, Value.bool false, Value.int IntKind.i64 0] 37)) W5.heap.size 37 #[Value.slice none 0 0, Value.int IntKind.i64 0, Value.int IntKind.u64 0, Value.int IntKind.u64 0, Value.int IntKind.u64 0, Value.int IntKind.u64 0, Value.int IntKind.u64 0, Value.int IntKind.u64 0, Value.int IntKind.u64 0, Value.int IntKind.u64 0, Value.int IntKind.u64 0, Value.int IntKind.u64 0, Value.int IntKind.u64 0, Value.int IntKind.u64 0, Value.int IntKind.u64 0, Value.int IntKind.u64 0, Value.int IntKind.u64 0, Value.int IntKind.u64 0, Value.int IntKind.u64 0, Value.int IntKind.u64 0, Value.int IntKind.u64 0, Value.int IntKind.u64 0, Value.int IntKind.u64 0, Value.int IntKind.u64 0, Value.int IntKind.u64 0, Value.int IntKind.u64 0, Value.int IntKind.u64 0, Value.int IntKind.u64 0, Value.int IntKind.u64 0, Value.int IntKind.u64 0, Value.int IntKind.u64 0, Value.int IntKind.u64 0, Value.int IntKind.u64 0, Value.int IntKind.u64 0, Value.bool false, Value.int IntKind.i64 0]) := Row.new _ _ _) | (refine wpList_store_row rfl 37 _ _ rfl W5.heap.size _ rfl rfl 37 _ hH.out hsz2 (z36_size2.trans hV2.out.symm) hVo2 ?_; have g2 := m3.below.size; have g3 := m2.below.size; have hB2 := Row.row hH.out V2; have m4 : Mr W4 ((W5.alloc (.cells #[Value.slice none 0 0, Value.int IntKind.i64 0, Value.int IntKind.u64 0, Value.int IntKind.u64 0, Value.int IntKind.u64 0, Value.int IntKind.u64 0, Value.int IntKind.u64 0, Value.int IntKind.u64 0, Value.int IntKind.u64 0, Value.int IntKind.u64 0, Value.int IntKind.u64 0, Value.int IntKind.u64 0, Value.int IntKind.u64 0, Value.int IntKind.u64 0, Value.int IntKind.u64 0, Value.int IntKind.u64 0, Value.int IntKind.u64 0, Value.int IntKind.u64 0, Value.int IntKind.u64 0, Value.int IntKind.u64 0, Value.int IntKind.u64 0, Value.int IntKind.u64 0, Value.int IntKind.u64 0, Value.int IntKind.u64 0, Value.int IntKind.u64 0, Value.int IntKind.u64 0, Value.int IntKind.u64 0, Value.int IntKind.u64 0, Value.int IntKind.u64 0, Value.int IntKind.u64 0, Value.int IntKind.u64 0, Value.int IntKind.u64 0, Value.int IntKind.u64 0, Value.int IntKind.u64 0, Value.bool false, Value.int IntKind.i64 0] 37)).setRow W5.heap.size V2) := mr_row (m3.alloc _) (g := W5.heap.size) (by omega) V2; have hBB := hB1.mr m4; have hMa := hMM.mr m4; have hMb := hM2.mr (mr_row ((Mr.refl W5).alloc (.cells #[Value.slice none 0 0, Value.int IntKind.i64 0, Value.int IntKind.u64 0, Value.int IntKind.u64 0, Value.int IntKind.u64 0, Value.int IntKind.u64 0, Value.int IntKind.u64 0, Value.int IntKind.u64 0, Value.int IntKind.u64 0, Value.int IntKind.u64 0, Value.int IntKind.u64 0, Value.int IntKind.u64 0, Value.int IntKind.u64 0, Value.int IntKind.u64 0, Value.int IntKind.u64 0, Value.int IntKind.u64 0, Value.int IntKind.u64 0, Value.int IntKind.u64 0, Value.int IntKind.u64 0, Value.int IntKind.u64 0, Value.int IntKind.u64 0, Value.int IntKind.u64 0, Value.int IntKind.u64 0, Value.int IntKind.u64 0, Value.int IntKind.u64 0, Value.int IntKind.u64 0, Value.int IntKind.u64 0, Value.int IntKind.u64 0, Value.int IntKind.u64 0, Value.int IntKind.u64 0, Value.int IntKind.u64 0, Value.int IntKind.u64 0, Value.int IntKind.u64 0, Value.int IntKind.u64 0, Value.bool false, Value.int IntKind.i64 0] 37)) (g := W5.heap.size) (by omega) V2); have m6 := m2.trans m4; clear hH m3 hM2 hU2 g2 g3 m2 m4 hB1 hMM c34 c35 l1; generalize (W5.alloc (.cells #[Value.slice none 0 0, Value.int IntKind.i64 0, Value.int IntKind.u64 0, Value.int IntKind.u64 0, Value.int IntKind.u64 0, Value.int IntKind.u64 0, Value.int IntKind.u64 0, Value.int IntKind.u64 0, Value.int IntKind.u64 0, Value.int IntKind.u64 0, Value.int IntKind.u64 0, Value.int IntKind.u64 0, Value.int IntKind.u64 0, Value.int IntKind.u64 0, Value.int IntKind.u64 0, Value.int IntKind.u64 0, Value.int IntKind.u64 0, Value.int IntKind.u64 0, Value.int IntKind.u64 0, Value.int IntKind.u64 0, Value.int IntKind.u64 0, Value.int IntKind.u64 0, Value.int IntKind.u64 0, Value.int IntKind.u64 0, Value.int IntKind.u64 0, Value.int IntKind.u64 0, Value.int IntKind.u64 0, Value.int IntKind.u64 0, Value.int IntKind.u64 0, Value.int IntKind.u64 0, Value.int IntKind.u64 0, Value.int IntKind.u64 0, Value.int IntKind.u64 0, Value.int IntKind.u64 0, Value.bool false, Value.int IntKind.i64 0] 37)).setRow W5.heap.size V2 = W6 at *; generalize W5.heap.size = U2 at *; have c34 := (hBB.cell 34).trans k34; have c35 := (hBB.cell 35).trans k35; have l1 := hBB.lt; have d34 := (hB2.cell 34).trans j34; have d35 := (hB2.cell 35).trans j35; have l2 := hB2.lt) | (go_at_call 14; (have := t2; clear this t2); refine (rsame11_c _ (hMa.mr (by repeat (first | (with_reducible exact Mr.refl _) | (with_reducible assumption) | (with_reducible apply Mr.drew) | (with_reducible apply Mr.alloc) | (with_reducible apply Mr.ext) | (with_reducible refine Mr.setCell ?_ (by first | (simp; done) | (simp; omega) | omega | (refine leOf0 ?_; (repeat (first | (with_reducible exact Mr.refl _) | (with_reducible apply Mr.drew) | (with_reducible apply Mr.alloc) | (with_reducible apply Mr.ext) | (with_reducible refine Mr.setCell ?_ (by first | (simp; done) | (simp; omega) | omega) _))); done) | (refine leOf ?_; (repeat (first | (with_reducible exact Mr.refl _) | (with_reducible apply Mr.drew) | (with_reducible apply Mr.alloc) | (with_reducible apply Mr.ext) | (with_reducible refine Mr.setCell ?_ (by first | (simp; done) | (simp; omega) | omega) _))); done)) _)))) rfl (lit_is _ rfl [0] 1 rfl (by decide +kernel) (by decide) _ rfl) rfl).mono ?_; rw [decide_eq_true rfl]; rintro e w' ⟨rfl, x5, rfl⟩) | (go_at_call 14; refine (rsame11_c _ (hMb.mr (by repeat (first | (with_reducible exact Mr.refl _) | (with_reducible assumption) | (with_reducible apply Mr.drew) | (with_reducible apply Mr.alloc) | (with_reducible apply Mr.ext) | (with_reducible refine Mr.setCell ?_ (by first | (simp; done) | (simp; omega) | omega | (refine leOf0 ?_; (repeat (first | (with_reducible exact Mr.refl _) | (with_reducible apply Mr.drew) | (with_reducible apply Mr.alloc) | (with_reducible apply Mr.ext) | (with_reducible refine Mr.setCell ?_ (by first | (simp; done) | (simp; omega) | omega) _))); done) | (refine leOf ?_; (repeat (first | (with_reducible exact Mr.refl _) | (with_reducible apply Mr.drew) | (with_reducible apply Mr.alloc) | (with_reducible apply Mr.ext) | (with_reducible refine Mr.setCell ?_ (by first | (simp; done) | (simp; omega) | omega) _))); done)) _)))) rfl (lit_is _ rfl [4] 1 rfl (by decide +kernel) (by decide) _ rfl) rfl).mono ?_; rw [decide_eq_true rfl]; rintro e w' ⟨rfl, x6, rfl⟩) | (go_at_call 15; refine (tsane_c _ (hC.mr (by repeat (first | (with_reducible exact Mr.refl _) | (with_reducible assumption) | (with_reducible apply Mr.drew) | (with_reducible apply Mr.alloc) | (with_reducible apply Mr.ext) | (with_reducible refine Mr.setCell ?_ (by first | (simp; done) | (simp; omega) | omega | (refine leOf0 ?_; (repeat (first | (with_reducible exact Mr.refl _) | (with_reducible apply Mr.drew) | (with_reducible apply Mr.alloc) | (with_reducible apply Mr.ext) | (with_reducible refine Mr.setCell ?_ (by first | (simp; done) | (simp; omega) | omega) _))); done) | (refine leOf ?_; (repeat (first | (with_reducible exact Mr.refl _) | (with_reducible apply Mr.drew) | (with_reducible apply Mr.alloc) | (with_reducible apply Mr.ext) | (with_reducible refine Mr.setCell ?_ (by first | (simp; done) | (simp; omega) | omega) _))); done)) _)))) rfl).mono ?_; rw [aw12_s]; rintro e w' ⟨rfl, x7, rfl⟩))
  go_ret
  exact ⟨rfl, Mr.mk' (by repeat (first | (with_reducible exact Mr.refl _) | (with_reducible assumption) | (with_reducible apply Mr.drew) | (with_reducible apply Mr.alloc) | (with_reducible apply Mr.ext) | (with_reducible refine Mr.setCell ?_ (by first | (simp; done) | (simp; omega) | omega | (refine leOf0 ?_; (repeat (first | (with_reducible exact Mr.refl _) | (with_reducible apply Mr.drew) | (with_reducible apply Mr.alloc) | (with_reducible apply Mr.ext) | (with_reducible refine Mr.setCell ?_ (by first | (simp; done) | (simp; omega) | omega) _))); done) | (refine leOf ?_; (repeat (first | (with_reducible exact Mr.refl _) | (with_reducible apply Mr.drew) | (with_reducible apply Mr.alloc) | (with_reducible apply Mr.ext) | (with_reducible refine Mr.setCell ?_ (by first | (simp; done) | (simp; omega) | omega) _))); done)) _)))⟩
end Tk
end Go.Proofs.Yteomkfgkhmdehaa
