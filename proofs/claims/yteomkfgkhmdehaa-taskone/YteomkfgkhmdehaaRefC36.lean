/- The contracts of the document's own answers of layer 12, last part: what is the same, what is few. -/
import Derived.Test.YteomkfgkhmdehaaRefC30
import Derived.Test.YteomkfgkhmdehaaTaskS2
import Derived.ChangeKeysEq
namespace Go.Proofs.Yteomkfgkhmdehaa
open Go.ChangeShapes Go.WideShapes Go.ChangeAt Go.RowKit
set_option linter.unusedVariables false
set_option linter.unusedSimpArgs false
attribute [local go_sem] Ext.cell Ext.froz Ext.lt Ext.lt1 Ext.lt2 Ext.lt3 Ext.all drew_heap setCell_size Ext.set_size
attribute [-go_sem] Instr.build loadCells
namespace Tk
open Wl Ce Rw
theorem infoU8 : (Try.prog.info? 34).map (·.size) = some 1 := by kernel_rfl
/-- Rows of words compared. -/
theorem eq_words (xs ys : List Int) (hx : xs.length = 32) (hy : ys.length = 32) (w : World) : (Op.equalIn 10000 35 (.agg (xs.map (Value.int .u64)).toArray) (.agg (ys.map (Value.int .u64)).toArray)).run Try.prog w = .ok (decide (xs = ys)) w := by
  obtain ⟨i0, hi, hs⟩ := Option.map_eq_some_iff.1 infoU8
  rw [run_equalIn_array w 9999 _ _ Try.underlying35 hi]
  have hc : Try.prog.cellsOf 34 = 1 := by kernel_rfl
  rw [hc]
  have key : ∀ is : List Nat, (∀ i ∈ is, i < 32) → (Op.eqItems 9999 34 1 (xs.map (Value.int .u64)).toArray (ys.map (Value.int .u64)).toArray is).run Try.prog w = .ok (is.all (fun i => gt xs i == gt ys i)) w := by
    intro is h
    induction is with
    | nil => simp [Op.eqItems]
    | cons i is ih =>
      have hi : i < 32 := h i (by simp)
      have px : ∀ l : List Int, l.length = 32 → (part 34 (l.map (Value.int .u64)).toArray (i * 1)).run Try.prog w = .ok (.int .u64 (gt l i)) w := fun l hl => by
        simp [part, isAgg, run_underlying Try.underlying34, gt, List.getD, List.getElem?_eq_getElem (show i < l.length by omega)]
      have pe : (Op.equalIn 9999 34 (.int .u64 (gt xs i)) (.int .u64 (gt ys i))).run Try.prog w = .ok (gt xs i == gt ys i) w := run_equalIn_int w 9998 _ .u64 .u64 _ _ Try.underlying34
      simp only [Op.eqItems, Sem.run_bind, px xs hx, px ys hy, pe, Result.andThen_ok, List.all_cons]
      cases hb : (gt xs i == gt ys i)
      · simp
      · simp only [Bool.not_true, Bool.false_eq_true, if_false, Bool.true_and]
        exact ih (fun j hj => h j (by simp [hj]))
  rw [key _ (fun i hi => List.mem_range.1 hi)]
  congr 1
  rw [Bool.eq_iff_iff, List.all_eq_true, decide_eq_true_iff]
  constructor
  · intro h
    exact list_eq (hx.trans hy.symm) (fun j hj => by simpa using h j (List.mem_range.2 (by omega)))
  · intro h
    subst h
    simp
attribute [local go_sem ↓] eq_words
theorem range_R {w : World} {B : Nat} {a : Option Addr} {c : Nat} {t : T} (h : Row w B 37 (TV a c t)) (hl : t.R.length = 32) : w.rangeAt B 2 (t.R.map (Value.int .u64)) := fun j v hv => by
  have hj : j < 32 := by
    have := (List.getElem?_eq_some_iff.1 hv).1
    rwa [List.length_map, hl] at this
  rw [h.cell, TV_R hl hj, ← hv, List.getElem?_map, List.getElem?_eq_getElem (by omega)]
  unfold gt
  rw [List.getD_eq_getElem?_getD, List.getElem?_eq_getElem (by omega)]
  rfl
def eqi (a b c d e a' b' c' d' e' : Int) : Bool := decide (a = a' ∧ b = b' ∧ c = c' ∧ d = d' ∧ e = e')
theorem eq_ins (a b c d e a' b' c' d' e' : Int) (w : World) : (Op.equalIn 10000 49 (.agg #[.int .i64 a, .int .i64 b, .int .i64 c, .int .i64 d, .int .u64 e]) (.agg #[.int .i64 a', .int .i64 b', .int .i64 c', .int .i64 d', .int .u64 e'])).run Try.prog w = .ok (eqi a b c d e a' b' c' d' e') w := by
  by_cases h1 : a = a'
  · by_cases h2 : b = b'
    · by_cases h3 : c = c'
      · by_cases h4 : d = d'
        · by_cases h5 : e = e' <;> simp [go_sem, eqi, h1, h2, h3, h4, h5]
        · simp [go_sem, eqi, h1, h2, h3, h4]
      · simp [go_sem, eqi, h1, h2, h3]
    · simp [go_sem, eqi, h1, h2]
  · simp [go_sem, eqi, h1]
attribute [local go_sem ↓] eq_ins
theorem eqi_of (x y : Ins) : eqi x.k x.i x.r x.go x.a y.k y.i y.r y.go y.a = decide (x = y) := by
  unfold eqi
  rw [decide_eq_decide]
  cases x; cases y; simp
theorem ins_cells {w W : World} {a : Option Addr} {c : Nat} {l : List Ins} (h : Inss w a c l) (m : Mr w W) (j : Nat) (hj : j < l.length) : ∃ b o, a = some ⟨b, o, none⟩ ∧ ∀ x : Ext W, (loadCells ⟨b, o + j * 5, none⟩ 5).run Try.prog x.u = .ok #[.int .i64 (at' l j).k, .int .i64 (at' l j).i, .int .i64 (at' l j).r, .int .i64 (at' l j).go, .int .u64 (at' l j).a] x.u := by
  obtain ⟨b, o, k, i, r, g, p, e, hb, hx, -⟩ := h.num j hj
  refine ⟨b, o, e, fun x => ?_⟩
  obtain ⟨b', o', k', i', r', g', p', e', hb', hx', -, c0, c1, c2, c3, c4⟩ := ((h.mr m).mr x.h).num j hj
  rw [e] at e'
  simp only [Option.some.injEq, Addr.mk.injEq] at e'
  obtain ⟨rfl, rfl, -⟩ := e'
  rw [hx']
  have := run_loadCells_list (P := Try.prog) x.u ⟨b, o + j * 5, none⟩ [.int .i64 k', .int .i64 i', .int .i64 r', .int .i64 g', .int .u64 p'] (fun q v hv => by
    rw [Addr.add_mid]
    match q, hv with
    | 0, hv => simp at hv; subst hv; exact c0
    | 1, hv => simp at hv; subst hv; exact c1
    | 2, hv => simp at hv; subst hv; exact c2
    | 3, hv => simp at hv; subst hv; exact c3
    | 4, hv => simp at hv; subst hv; exact c4
    | q + 5, hv => simp at hv)
  exact this
theorem code_eq {l m : List Ins} (hn : l.length = m.length) (h : ∀ j, j < l.length → at' l j = at' m j) : l = m := by
  apply List.ext_getElem?
  intro j
  by_cases hj : j < l.length
  · have := h j hj
    unfold at' at this
    rw [List.getD_eq_getElem?_getD, List.getElem?_eq_getElem hj, List.getD_eq_getElem?_getD, List.getElem?_eq_getElem (by omega)] at this
    rw [List.getElem?_eq_getElem hj, List.getElem?_eq_getElem (by omega)]
    simpa using this
  · rw [List.getElem?_eq_none (by omega), List.getElem?_eq_none (by omega)]
set_option maxRecDepth 100000 in
set_option maxHeartbeats 4000000 in
theorem rsame12_c {a b : Option Addr} {c d : Nat} {t u : T} (w : World) (h : Tis w a c t) (g : Tis w b d u) :
    Calls Try.prog 17 #[.agg (TV a c t), .agg (TV b d u)] w fun e w' => e = .returned (.bool (decide (t = u))) ∧ ∃ x : Ext w, w' = x.u := by
  obtain ⟨hI, hT⟩ := h
  obtain ⟨gI, gT⟩ := g
  have h0 := TV_0 a c t
  have g0 := TV_0 b d u
  have h1 := TV_1 a c t
  have g1 := TV_1 b d u
  have h34 := TV_34 (ca := a) (cc := c) hT.len
  have g34 := TV_34 (ca := b) (cc := d) gT.len
  have h35 := TV_35 (ca := a) (cc := c) hT.len
  have g35 := TV_35 (ca := b) (cc := d) gT.len
  have hsa : (Try.prog.info? 35).map (·.size) = some (t.R.map (Value.int .u64)).length := by rw [List.length_map, hT.len]; kernel_rfl
  have hsb : (Try.prog.info? 35).map (·.size) = some (u.R.map (Value.int .u64)).length := by rw [List.length_map, gT.len]; kernel_rfl
  have hRa : Row ((w.alloc (.cells (TV a c t) 37)).alloc (.cells (TV b d u) 37)) w.heap.size 37 (TV a c t) := (Row.new _ _ _).alloc _
  have hRb : Row ((w.alloc (.cells (TV a c t) 37)).alloc (.cells (TV b d u) 37)) (w.heap.size + 1) 37 (TV b d u) := row_new _ (by simp)
  have hm : Mr w ((w.alloc (.cells (TV a c t) 37)).alloc (.cells (TV b d u) 37)) := ((Mr.refl w).alloc _).alloc _
  have hl32 := hT.len
  have gl32 := gT.len
  have hra := range_R hRa hl32
  have hrb := range_R hRb gl32
  generalize hV : TV a c t = V at *
  generalize hU : TV b d u = U at *
  go_enter Try.func17, Try.ntmps17
  go_upto_region 1 with fail
  have hla : ∀ o : Nat, o = 2 → (loadCells ⟨w.heap.size, o, none⟩ 32).run Try.prog ((w.alloc (.cells V 37)).alloc (.cells U 37)) = .ok (t.R.map (Value.int .u64)).toArray ((w.alloc (.cells V 37)).alloc (.cells U 37)) := fun o ho => by
    have := run_loadCells_list (P := Try.prog) ((w.alloc (.cells V 37)).alloc (.cells U 37)) ⟨w.heap.size, 2, none⟩ (t.R.map (Value.int .u64)) (fun j v hv => by rw [Addr.add_mid]; exact hra j v hv)
    rw [List.length_map, hl32] at this
    rw [ho]; exact this
  have hlb : ∀ o : Nat, o = 2 → (loadCells ⟨w.heap.size + 1, o, none⟩ 32).run Try.prog ((w.alloc (.cells V 37)).alloc (.cells U 37)) = .ok (u.R.map (Value.int .u64)).toArray ((w.alloc (.cells V 37)).alloc (.cells U 37)) := fun o ho => by
    have := run_loadCells_list (P := Try.prog) ((w.alloc (.cells V 37)).alloc (.cells U 37)) ⟨w.heap.size + 1, 2, none⟩ (u.R.map (Value.int .u64)) (fun j v hv => by rw [Addr.add_mid]; exact hrb j v hv)
    rw [List.length_map, gl32] at this
    rw [ho]; exact this
  replace hla := hla 2 rfl
  replace hlb := hlb 2 rfl
  have hw2 : w.heap.size + 2 ≤ ((w.alloc (.cells V 37)).alloc (.cells U 37)).heap.size := by simp
  generalize (w.alloc (.cells V 37)).alloc (.cells U 37) = W at *
  generalize hBs : w.heap.size = B at *
  replace h0 := (hRa.cell 0).trans h0
  replace g0 := (hRb.cell 0).trans g0
  replace h1 := (hRa.cell 1).trans h1
  replace g1 := (hRb.cell 1).trans g1
  replace h34 := (hRa.cell 34).trans h34
  replace g34 := (hRb.cell 34).trans g34
  replace h35 := (hRa.cell 35).trans h35
  replace g35 := (hRb.cell 35).trans g35
  clear hra hrb hsa hsb hRa hRb hV hU
  have lB : B < W.heap.size := by omega
  have lB1 : B + 1 < W.heap.size := by omega
  by_cases e1 : t.pc = u.pc
  · rw [← e1] at g1
    by_cases e2 : t.R = u.R
    · by_cases e3 : t.done = u.done
      · rw [← e3] at g34
        by_cases e4 : t.ans = u.ans
        · rw [← e4] at g35
          by_cases e5 : t.code.length = u.code.length
          · obtain ⟨n, hn⟩ : ∃ n, u.code.length = n := ⟨_, rfl⟩
            rw [hn] at e5 g0
            rw [e5] at h0
            have hmaxl : t.code.length ≤ maxLen := Nat.le_trans hI.1.le hI.1.max
            unfold maxLen at hmaxl
            go_wp2
            go_loopw [5] (fun i wr => ∃ j : Nat, j ≤ n ∧ i = .int .i64 j ∧ (∃ y : Ext W, wr = y.u) ∧ Hid (∀ q, q < j → at' t.code q = at' u.code q)) (fun i _ => n - (intOf i).toNat)
            case atStart => exact ⟨0, by omega, rfl, Mr.mk' (Mr.refl _), fun q hq => by omega⟩
            case round =>
              obtain ⟨j, hj, rfl, ⟨y, rfl⟩, HB⟩ := hrel
              by_cases hlt : j < n
              · obtain ⟨b1, o1, rfl, hc1⟩ := ins_cells hI (hm.trans y.h) j (by omega)
                obtain ⟨b2, o2, rfl, hc2⟩ := ins_cells gI (hm.trans y.h) j (by omega)
                have hlt' : (j : Int) < n := by omega
                by_cases he : at' t.code j = at' u.code j
                · have he' : Hid (at' t.code j = at' u.code j) := he
                  have HN : Hid (∀ q, q < j + 1 → at' t.code q = at' u.code q) := fun q hq => by rcases Nat.lt_or_ge q j with g | g; exact HB.out q g; obtain rfl : q = j := (by omega); exact he'.out
                  have hq := eqi_of (at' t.code j) (at' u.code j)
                  rw [decide_eq_true he] at hq
                  clear HB he he'
                  go_wp2
                  refine wp_region_ext (by kernel_rfl) (by kernel_rfl) ?_; (repeat (go_big_quiet_step (fail))); refine wpQuiet_nil ?_; rintro w1 ⟨x9, rfl⟩; go_wp2
                  go_roundw
                  case rel => exact ⟨j + 1, by omega, by first | rfl | simp, Mr.mk' (by repeat (first | (with_reducible exact Mr.refl _) | (with_reducible apply Mr.drew) | (with_reducible apply Mr.alloc) | (with_reducible apply Mr.ext) | (with_reducible refine Mr.setCell ?_ (by first | (simp; done) | (simp; omega) | omega | (refine leOf0 ?_; (repeat (first | (with_reducible exact Mr.refl _) | (with_reducible apply Mr.drew) | (with_reducible apply Mr.alloc) | (with_reducible apply Mr.ext) | (with_reducible refine Mr.setCell ?_ (by first | (simp; done) | (simp; omega) | omega) _))); done) | (refine leOf ?_; (repeat (first | (with_reducible exact Mr.refl _) | (with_reducible apply Mr.drew) | (with_reducible apply Mr.alloc) | (with_reducible apply Mr.ext) | (with_reducible refine Mr.setCell ?_ (by first | (simp; done) | (simp; omega) | omega) _))); done)) _))), HN⟩
                  case measure => simp [intOf]; omega
                · have hf : Hid (decide (t = u) = false) := decide_eq_false (fun e => he (by rw [e]))
                  have hq := eqi_of (at' t.code j) (at' u.code j)
                  rw [decide_eq_false he] at hq
                  clear HB he
                  go_wp2
                  refine wp_region_ext (by kernel_rfl) (by kernel_rfl) ?_; (repeat (go_big_quiet_step (fail))); refine wpQuiet_nil ?_; rintro w1 ⟨x9, rfl⟩; go_wp2
                  go_ret
                  exact ⟨by rw [hf.out]; rfl, ⟨_, (hm.trans y.h).trans x9.h⟩, rfl⟩
              · obtain rfl : j = n := by omega
                have hf : Hid (decide (t = u) = true) := by
                  apply decide_eq_true
                  have ec : t.code = u.code := code_eq (by omega) (fun q hq => HB.out q (by omega))
                  cases t; cases u
                  simp only at e1 e2 e3 e4 ec
                  subst e1 e2 e3 e4 ec
                  rfl
                go_wp2
                go_ret
                exact ⟨by rw [hf.out]; rfl, ⟨_, hm.trans y.h⟩, rfl⟩
          · have hf : Hid (decide (t = u) = false) := decide_eq_false (fun q => e5 (by rw [q]))
            have n5 : ((t.code.length : Int) == (u.code.length : Int)) = false := by simp only [beq_eq_false_iff_ne, ne_eq]; omega
            have m5 : ((t.code.length : Int) != (u.code.length : Int)) = true := by rw [bne, n5]; rfl
            (go_wp2; go_ret; exact ⟨by rw [hf.out]; rfl, ⟨_, hm⟩, rfl⟩)
        · have hf : Hid (decide (t = u) = false) := decide_eq_false (fun q => e4 (by rw [q]))
          have n4 : (t.ans == u.ans) = false := by simpa using e4
          have m4 : (t.ans != u.ans) = true := by rw [bne, n4]; rfl
          (go_wp2; go_ret; exact ⟨by rw [hf.out]; rfl, ⟨_, hm⟩, rfl⟩)
      · have hf : Hid (decide (t = u) = false) := decide_eq_false (fun q => e3 (by rw [q]))
        cases td : t.done <;> cases ud : u.done
        · rw [td, ud] at e3; exact absurd rfl e3
        · rw [td] at h34; rw [ud] at g34
          (go_wp2; go_ret; exact ⟨by rw [hf.out]; rfl, ⟨_, hm⟩, rfl⟩)
        · rw [td] at h34; rw [ud] at g34
          (go_wp2; go_ret; exact ⟨by rw [hf.out]; rfl, ⟨_, hm⟩, rfl⟩)
        · rw [td, ud] at e3; exact absurd rfl e3
    · have hf : Hid (decide (t = u) = false) := decide_eq_false (fun q => e2 (by rw [q]))
      (go_wp2; go_ret; exact ⟨by rw [hf.out]; rfl, ⟨_, hm⟩, rfl⟩)
  · have hf : Hid (decide (t = u) = false) := decide_eq_false (fun q => e1 (by rw [q]))
    have n1 : (t.pc == u.pc) = false := by simpa using e1
    have m1 : (t.pc != u.pc) = true := by rw [bne, n1]; rfl
    (go_wp2; go_ret; exact ⟨by rw [hf.out]; rfl, ⟨_, hm⟩, rfl⟩)
theorem te_cells {w W : World} {a : Option Addr} {c : Nat} {L : List Te} (h : Tes w a c L) (m : Mr w W) (j : Nat) (hj : j < L.length) : ∃ b o X, a = some ⟨b, o, none⟩ ∧ L[j]? = some X ∧ Te.is w X ∧ ∀ x : Ext W, (loadCells ⟨b, o + j * 36, none⟩ 36).run Try.prog x.u = .ok (TV X.ca X.cc X.t) x.u := by
  obtain ⟨b, o, e, hb, -⟩ := h.range (List.getElem?_eq_getElem hj)
  refine ⟨b, o, L[j], e, List.getElem?_eq_getElem hj, h.2 _ (List.getElem_mem hj), fun x => ?_⟩
  obtain ⟨b', o', e', hb', hr⟩ := ((h.mr m).mr x.h).range (List.getElem?_eq_getElem hj)
  rw [e] at e'
  simp only [Option.some.injEq, Addr.mk.injEq] at e'
  obtain ⟨rfl, rfl, -⟩ := e'
  have hl : (TV L[j].ca L[j].cc L[j].t).toList.length = 36 := by rw [Array.length_toList]; exact TV_size (h.2 _ (List.getElem_mem hj)).2.len
  have := run_loadCells_list (P := Try.prog) x.u ⟨b, o + j * 36, none⟩ (TV L[j].ca L[j].cc L[j].t).toList (fun q v hv => by rw [Addr.add_mid]; exact hr q v hv)
  rw [hl, Array.toArray_toList] at this
  exact this
theorem map_at {L M : List Te} {j : Nat} {X Y : Te} (hL : L[j]? = some X) (hM : M[j]? = some Y) (e : L.map Te.t = M.map Te.t) : X.t = Y.t := by
  have := congrArg (·[j]?) e
  simp only [List.getElem?_map, hL, hM, Option.map_some, Option.some.injEq] at this
  exact this
set_option maxRecDepth 100000 in
set_option maxHeartbeats 4000000 in
theorem rsameall12_c {a b : Option Addr} {c d n m : Nat} {L M : List Te} (w : World) (h : Tes w a c L) (en : L.length = n) (g : Tes w b d M) (em : M.length = m) :
    Calls Try.prog 13 #[.slice a n c, .slice b m d] w fun e w' => e = .returned (.bool (decide (L.map Te.t = M.map Te.t))) ∧ ∃ x : Ext w, w' = x.u := by
  have m0 := h.1.max
  have k0 := h.1.le
  have m1 := g.1.max
  have k1 := g.1.le
  unfold maxLen at m0 m1
  have hn9 : n ≤ 9223372036854775807 := by omega
  have hm9 : m ≤ 9223372036854775807 := by omega
  clear m0 k0 m1 k1
  by_cases hnm : n = m
  · subst hnm
    go_enter Try.func13, Try.ntmps13

    go_wp2
    go_loopw [5] (fun i wr => ∃ j : Nat, j ≤ n ∧ i = .int .i64 j ∧ (∃ y : Ext w, wr = y.u) ∧ Hid (∀ q X Y, q < j → L[q]? = some X → M[q]? = some Y → X.t = Y.t)) (fun i _ => n - (intOf i).toNat)
    case atStart => exact ⟨0, by omega, rfl, Mr.mk' (Mr.refl _), fun q X Y hq => by omega⟩
    case round =>
      obtain ⟨j, hj, rfl, ⟨y, rfl⟩, HB⟩ := hrel
      by_cases hlt : j < n
      · obtain ⟨b1, o1, X, rfl, hX, hXi, hc1⟩ := te_cells h y.h j (by omega)
        obtain ⟨b2, o2, Y, rfl, hY, hYi, hc2⟩ := te_cells g y.h j (by omega)
        have hlt' : (j : Int) < n := by omega
        have hs : ∀ x : Ext y.u, Calls Try.prog 17 #[.agg (TV X.ca X.cc X.t), .agg (TV Y.ca Y.cc Y.t)] x.u fun e w' => e = .returned (.bool (decide (X.t = Y.t))) ∧ ∃ z : Ext x.u, w' = z.u := fun x => rsame12_c x.u (Tis.mr hXi (y.h.trans x.h)) (Tis.mr hYi (y.h.trans x.h))
        by_cases he : X.t = Y.t
        · rw [decide_eq_true he] at hs
          have HN : Hid (∀ q X Y, q < j + 1 → L[q]? = some X → M[q]? = some Y → X.t = Y.t) := fun q X' Y' hq h1 h2 => by
            rcases Nat.lt_or_ge q j with g | g
            · exact HB.out q X' Y' g h1 h2
            · obtain rfl : q = j := by omega
              rw [hX] at h1; rw [hY] at h2
              simp only [Option.some.injEq] at h1 h2
              rw [← h1, ← h2]; exact he
          clear HB he hX hY
          go_wp2
          refine wp_region_ext (by kernel_rfl) (by kernel_rfl) ?_; (repeat (go_big_quiet_step (first | (go_at_call 17; exact extCall (hs _))))); refine wpQuiet_nil ?_; rintro w1 ⟨x9, rfl⟩; go_wp2
          go_roundw
          case rel => exact ⟨j + 1, by omega, by first | rfl | simp, Mr.mk' (by repeat (first | (with_reducible exact Mr.refl _) | (with_reducible apply Mr.drew) | (with_reducible apply Mr.alloc) | (with_reducible apply Mr.ext) | (with_reducible refine Mr.setCell ?_ (by first | (simp; done) | (simp; omega) | omega | (refine leOf0 ?_; (repeat (first | (with_reducible exact Mr.refl _) | (with_reducible apply Mr.drew) | (with_reducible apply Mr.alloc) | (with_reducible apply Mr.ext) | (with_reducible refine Mr.setCell ?_ (by first | (simp; done) | (simp; omega) | omega) _))); done) | (refine leOf ?_; (repeat (first | (with_reducible exact Mr.refl _) | (with_reducible apply Mr.drew) | (with_reducible apply Mr.alloc) | (with_reducible apply Mr.ext) | (with_reducible refine Mr.setCell ?_ (by first | (simp; done) | (simp; omega) | omega) _))); done)) _))), HN⟩
          case measure => simp [intOf]; omega
        · rw [decide_eq_false he] at hs
          have hf : Hid (decide (L.map Te.t = M.map Te.t) = false) := decide_eq_false (fun e => he (map_at hX hY e))
          clear HB he hX hY
          go_wp2
          refine wp_region_ext (by kernel_rfl) (by kernel_rfl) ?_; (repeat (go_big_quiet_step (first | (go_at_call 17; exact extCall (hs _))))); refine wpQuiet_nil ?_; rintro w1 ⟨x9, rfl⟩; go_wp2
          go_ret
          exact ⟨by rw [hf.out]; rfl, Mr.mk' (by repeat (first | (with_reducible exact Mr.refl _) | (with_reducible apply Mr.drew) | (with_reducible apply Mr.alloc) | (with_reducible apply Mr.ext) | (with_reducible refine Mr.setCell ?_ (by first | (simp; done) | (simp; omega) | omega | (refine leOf0 ?_; (repeat (first | (with_reducible exact Mr.refl _) | (with_reducible apply Mr.drew) | (with_reducible apply Mr.alloc) | (with_reducible apply Mr.ext) | (with_reducible refine Mr.setCell ?_ (by first | (simp; done) | (simp; omega) | omega) _))); done) | (refine leOf ?_; (repeat (first | (with_reducible exact Mr.refl _) | (with_reducible apply Mr.drew) | (with_reducible apply Mr.alloc) | (with_reducible apply Mr.ext) | (with_reducible refine Mr.setCell ?_ (by first | (simp; done) | (simp; omega) | omega) _))); done)) _)))⟩
      · obtain rfl : j = n := by omega
        have hf : Hid (decide (L.map Te.t = M.map Te.t) = true) := by
          apply decide_eq_true
          apply List.ext_getElem?
          intro q
          rw [List.getElem?_map, List.getElem?_map]
          by_cases hq : q < j
          · rw [List.getElem?_eq_getElem (show q < L.length by omega), List.getElem?_eq_getElem (show q < M.length by omega)]
            simp only [Option.map_some, Option.some.injEq]
            exact HB.out q _ _ hq (List.getElem?_eq_getElem _) (List.getElem?_eq_getElem _)
          · rw [List.getElem?_eq_none (show L.length ≤ q by omega), List.getElem?_eq_none (show M.length ≤ q by omega)]
        clear HB
        go_wp2
        go_ret
        exact ⟨by rw [hf.out]; rfl, Mr.mk' (by repeat (first | (with_reducible exact Mr.refl _) | (with_reducible apply Mr.drew) | (with_reducible apply Mr.alloc) | (with_reducible apply Mr.ext) | (with_reducible refine Mr.setCell ?_ (by first | (simp; done) | (simp; omega) | omega | (refine leOf0 ?_; (repeat (first | (with_reducible exact Mr.refl _) | (with_reducible apply Mr.drew) | (with_reducible apply Mr.alloc) | (with_reducible apply Mr.ext) | (with_reducible refine Mr.setCell ?_ (by first | (simp; done) | (simp; omega) | omega) _))); done) | (refine leOf ?_; (repeat (first | (with_reducible exact Mr.refl _) | (with_reducible apply Mr.drew) | (with_reducible apply Mr.alloc) | (with_reducible apply Mr.ext) | (with_reducible refine Mr.setCell ?_ (by first | (simp; done) | (simp; omega) | omega) _))); done)) _)))⟩
  · have hf : Hid (decide (L.map Te.t = M.map Te.t) = false) := decide_eq_false (fun e => hnm (by rw [← en, ← em]; have := congrArg List.length e; simpa using this))
    have hne : ¬ (n : Int) = m := by omega
    go_enter Try.func13, Try.ntmps13
    go_wp2
    go_ret
    exact ⟨by rw [hf.out]; rfl, Mr.mk' (by repeat (first | (with_reducible exact Mr.refl _) | (with_reducible apply Mr.drew) | (with_reducible apply Mr.alloc) | (with_reducible apply Mr.ext) | (with_reducible refine Mr.setCell ?_ (by first | (simp; done) | (simp; omega) | omega | (refine leOf0 ?_; (repeat (first | (with_reducible exact Mr.refl _) | (with_reducible apply Mr.drew) | (with_reducible apply Mr.alloc) | (with_reducible apply Mr.ext) | (with_reducible refine Mr.setCell ?_ (by first | (simp; done) | (simp; omega) | omega) _))); done) | (refine leOf ?_; (repeat (first | (with_reducible exact Mr.refl _) | (with_reducible apply Mr.drew) | (with_reducible apply Mr.alloc) | (with_reducible apply Mr.ext) | (with_reducible refine Mr.setCell ?_ (by first | (simp; done) | (simp; omega) | omega) _))); done)) _)))⟩
def few (L : List T) : Bool := L.all (fun t => decide (t.code.length ≤ 210)) && decide (L.length ≤ 12)
theorem code_cell {w : World} {a : Option Addr} {c : Nat} {L : List Te} (h : Tes w a c L) (j : Nat) (hj : j < L.length) : ∃ b o X, a = some ⟨b, o, none⟩ ∧ b < w.heap.size ∧ L[j]? = some X ∧ w.cell? ⟨b, o + j * 36, none⟩ = some (.slice X.ca X.t.code.length X.cc) := by
  obtain ⟨b, o, X, e, hb, hX, hc⟩ := h.1.num j hj
  refine ⟨b, o, X, e, hb, hX, ?_⟩
  have := hc 0 (by omega)
  rw [Nat.add_zero] at this
  rw [this]
  unfold Te.enc
  rw [TV_0]; rfl
set_option maxRecDepth 100000 in
set_option maxHeartbeats 4000000 in
theorem rfew12_c {a : Option Addr} {c n : Nat} {L : List Te} (w : World) (h : Tes w a c L) (en : L.length = n) :
    Calls Try.prog 10 #[.slice a n c] w fun e w' => e = .returned (.bool (few (L.map Te.t))) ∧ w' = w := by
  have m0 := h.1.max
  have k0 := h.1.le
  unfold maxLen at m0
  have hn9 : n ≤ 9223372036854775807 := by omega
  clear m0 k0
  go_enter Try.func10, Try.ntmps10
  go_wp2
  go_loopw [3] (fun i wr => ∃ j : Nat, j ≤ n ∧ i = .int .i64 j ∧ wr = w ∧ Hid (∀ q X, q < j → L[q]? = some X → X.t.code.length ≤ 210)) (fun i _ => n - (intOf i).toNat)
  case atStart => exact ⟨0, by omega, rfl, rfl, fun q X hq => by omega⟩
  case round =>
    obtain ⟨j, hj, rfl, rfl, HB⟩ := hrel
    by_cases hlt : j < n
    · obtain ⟨b1, o1, X, rfl, hb1, hX, hc⟩ := code_cell h j (by omega)
      have hlt' : (j : Int) < n := by omega
      by_cases hg : X.t.code.length ≤ 210
      · have HN : Hid (∀ q X, q < j + 1 → L[q]? = some X → X.t.code.length ≤ 210) := fun q X' hq h1 => by
          rcases Nat.lt_or_ge q j with g | g
          · exact HB.out q X' g h1
          · obtain rfl : q = j := by omega
            rw [hX] at h1
            simp only [Option.some.injEq] at h1
            rw [← h1]; exact hg
        have hg' : ¬ (210 : Int) < X.t.code.length := by omega
        clear HB hX
        go_wp2
        go_roundw
        case rel => exact ⟨j + 1, by omega, by first | rfl | simp, by first | rfl | trivial, HN⟩
        case measure => simp [intOf]; omega
      · have hg' : (210 : Int) < X.t.code.length := by omega
        have hf : Hid (few (L.map Te.t) = false) := by
          rw [Hid, Bool.eq_false_iff]
          intro e
          unfold few at e
          rw [Bool.and_eq_true, List.all_eq_true] at e
          have := e.1 X.t (List.mem_map.2 ⟨X, List.mem_of_getElem? hX, rfl⟩)
          rw [decide_eq_true_eq] at this
          exact hg this
        clear HB hX
        go_wp2
        go_ret
        exact ⟨by rw [hf.out]; rfl, rfl⟩
    · obtain rfl : j = n := by omega
      have hf : Hid (few (L.map Te.t) = decide ((j : Int) ≤ 12)) := by
        rw [Hid]
        unfold few
        have : (L.map Te.t).all (fun t => decide (t.code.length ≤ 210)) = true := by
          rw [List.all_eq_true]
          intro x hx
          obtain ⟨X, hX, rfl⟩ := List.mem_map.1 hx
          obtain ⟨q, hq, e⟩ := List.mem_iff_getElem.1 hX
          rw [decide_eq_true_eq]
          exact HB.out q X (by omega) (by rw [← e]; exact List.getElem?_eq_getElem hq)
        rw [this, Bool.true_and, List.length_map, decide_eq_decide]
        omega
      clear HB
      go_wp2
      go_ret
      exact ⟨by rw [hf.out]; rfl, rfl⟩
end Tk
end Go.Proofs.Yteomkfgkhmdehaa
