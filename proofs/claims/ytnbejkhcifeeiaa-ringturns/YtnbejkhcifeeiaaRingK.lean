/- A step of who takes (layer 14's law RingTurns). -/
import Derived.Test.YtnbejkhcifeeiaaRingC4
namespace Go.Proofs.Ytnbejkhcifeeiaa
open Go.ChangeShapes Go.WideShapes Go.ChangeAt Go.RowKit
set_option linter.unusedVariables false
set_option linter.unusedSimpArgs false
attribute [local go_sem] Ext.cell Ext.froz Ext.lt Ext.lt1 Ext.lt2 Ext.lt3 Ext.all drew_heap setCell_size Ext.set_size
attribute [-go_sem] loadCells
attribute [-go_sem] Instr.build
namespace Rg
open Wl Ce Tk Rw
/-- What a step of who takes turns. -/
def Tak (s s' : Pl) (B C hh : Nat) : Prop := s'.b = s.b ∧ s'.c = s.c ∧ s'.ok = true ∧ s'.nx = s.nx ∧ s'.y = s.y ∧ s'.ly = s.ly ∧ s'.L = s.L ∧ s'.d = s.d ∧ s'.M = Tk.stepM s.z.t s.M ∧
  (((Tk.stepT s.z.t s.M).done = false ∧ s'.z.t = Tk.stepT s.z.t s.M ∧ s'.pp = s.pp + 1 ∧ s'.h = hh) ∨
   ((Tk.stepT s.z.t s.M).done = true ∧ (Tk.stepT s.z.t s.M).ans = 1 ∧ s'.h = ((hh + 1 : Nat) : Int) ∧ s'.pp = 0 ∧ s'.z.t = Tk.start (popL B C ((hh + 1 : Nat) : Int))) ∨
   ((Tk.stepT s.z.t s.M).done = true ∧ (Tk.stepT s.z.t s.M).ans ≠ 1 ∧ s'.h = hh ∧ s'.pp = 0 ∧ s'.z.t = Tk.start (popL B C (hh : Int))))
/-- What has turned behind a pop that is done. -/
def Mod (s q : Pl) (M1 : List Int) (T1 : T) (hh : Nat) : Prop := q.b = s.b ∧ q.c = s.c ∧ q.ok = true ∧ q.nx = s.nx ∧ q.y = s.y ∧ q.ly = s.ly ∧ q.L = s.L ∧ q.d = s.d ∧ q.M = M1 ∧
  ((T1.ans = 1 ∧ q.h = ((hh + 1 : Nat) : Int)) ∨ (T1.ans ≠ 1 ∧ q.h = hh))
/-- One of those that were laid. -/
theorem Pin.elem {W : World} {P : Nat} {s : Pl} (h : Pin W P s) {i : Nat} {x : We} (hx : s.L[i]? = some x) : ∃ g, s.al = some ⟨g, 0, none⟩ ∧ P < g ∧ g < W.heap.size ∧ W.cell? ⟨g, i, none⟩ = some (.slice x.a 6 x.c) ∧ Wl.Is W x.a x.c x.l ∧ x.l.length = 6 := by
  have hm := List.mem_of_getElem? hx
  have hi : i < s.L.length := (List.getElem?_eq_some_iff.1 hx).1
  have h6 := h.six x hm
  obtain ⟨e0, ⟨h1, h2⟩ | ⟨g, cap, cur, h2, h3, h4, _⟩⟩ := h.own
  · omega
  · simp only [Value.slice.injEq] at h2
    obtain ⟨e1, _, e3⟩ := h2
    refine ⟨g, e1, h3, (Array.getElem?_eq_some_iff.1 h4).1, ?_, h.list x hm, h6⟩
    have hw := h.own
    rw [e1] at hw
    rw [hw.cellAt i (by omega)]
    have e := Lv.flat_get (s := 1) (enc := We.enc) s.L i x hx 0 (by omega)
    rw [Nat.mul_one, Nat.add_zero] at e
    rw [e]; unfold We.enc; rw [h6]
/-- What loads of a play ask for, where it takes. -/
structure Lh (W : World) (P : Nat) (b c hh : Int) : Prop where
  lt : P < W.heap.size
  c1 : W.cell? ⟨P, 1, none⟩ = some (.int .i64 b)
  c2 : W.cell? ⟨P, 2, none⟩ = some (.int .i64 c)
  c6 : W.cell? ⟨P, 6, none⟩ = some (.int .i64 hh)
theorem Pin.lh {W : World} {P : Nat} {s : Pl} (h : Pin W P s) : Lh W P s.b s.c s.h := ⟨h.row.lt, (h.row.cell 1).trans (PV_1 s), (h.row.cell 2).trans (PV_2 s), (h.row.cell 6).trans (PV_6 s)⟩
theorem Lh.mr {W W' : World} {P : Nat} {b c hh : Int} (h : Lh W P b c hh) (m : Mr W W') : Lh W' P b c hh := by
  have e := m.below.block P h.lt
  have q := fun k => World.cell?_of_block (a := ⟨P, k, none⟩) e
  exact ⟨Nat.lt_of_lt_of_le h.lt m.below.size, by rw [q]; exact h.c1, by rw [q]; exact h.c2, by rw [q]; exact h.c6⟩
/-- What loads ask for where what was taken is held against what was laid. -/
structure Le (W : World) (P : Nat) (hh : Int) (al : Option Addr) (N kl g i : Nat) (x : We) : Prop where
  lt : P < W.heap.size
  gt : g < W.heap.size
  c4 : W.cell? ⟨P, 4, none⟩ = some (.slice al N kl)
  c6 : W.cell? ⟨P, 6, none⟩ = some (.int .i64 hh)
  ce : W.cell? ⟨g, i, none⟩ = some (.slice x.a 6 x.c)
theorem Le.mr {W W' : World} {P : Nat} {hh : Int} {al : Option Addr} {N kl g i : Nat} {x : We} (h : Le W P hh al N kl g i x) (m : Mr W W') : Le W' P hh al N kl g i x := by
  have e := m.below.block P h.lt
  have q := fun k => World.cell?_of_block (a := ⟨P, k, none⟩) e
  have e2 := m.below.block g h.gt
  have q2 := fun k => World.cell?_of_block (a := ⟨g, k, none⟩) e2
  exact ⟨Nat.lt_of_lt_of_le h.lt m.below.size, Nat.lt_of_lt_of_le h.gt m.below.size, by rw [q]; exact h.c4, by rw [q]; exact h.c6, by rw [q2]; exact h.ce⟩
theorem z36_size3 : (#[Value.slice none 0 0, Value.int IntKind.i64 0, Value.int IntKind.u64 0, Value.int IntKind.u64 0, Value.int IntKind.u64 0, Value.int IntKind.u64 0, Value.int IntKind.u64 0, Value.int IntKind.u64 0, Value.int IntKind.u64 0, Value.int IntKind.u64 0, Value.int IntKind.u64 0, Value.int IntKind.u64 0, Value.int IntKind.u64 0, Value.int IntKind.u64 0, Value.int IntKind.u64 0, Value.int IntKind.u64 0, Value.int IntKind.u64 0, Value.int IntKind.u64 0, Value.int IntKind.u64 0, Value.int IntKind.u64 0, Value.int IntKind.u64 0, Value.int IntKind.u64 0, Value.int IntKind.u64 0, Value.int IntKind.u64 0, Value.int IntKind.u64 0, Value.int IntKind.u64 0, Value.int IntKind.u64 0, Value.int IntKind.u64 0, Value.int IntKind.u64 0, Value.int IntKind.u64 0, Value.int IntKind.u64 0, Value.int IntKind.u64 0, Value.int IntKind.u64 0, Value.int IntKind.u64 0, Value.bool false, Value.int IntKind.i64 0] : Array Value).size = 36 := rfl
set_option maxRecDepth 100000 in
set_option maxHeartbeats 4000000 in
theorem taker_c {s : Pl} {P B C hh : Nat} (hC : 1 ≤ C ∧ C ≤ 8) (hB : B ≤ 100) (w0 w : World) (m0 : Mr w0 w) (hP : w0.heap.size ≤ P) (h : Pin w P s) (eb : s.b = B) (ec : s.c = C) (eh : s.h = hh) (hok : s.ok = true) (hpp : 0 ≤ s.pp ∧ s.pp + 1 ≤ 8) (hM0 : 0 < s.M.length) (hL : s.L.length ≤ 1000) (hhh : hh ≤ 1000)
    (hTk : (Tk.stepT s.z.t s.M).done = true → (Tk.stepT s.z.t s.M).ans = 1 → ∃ x : We, s.L[hh]? = some x ∧ taken (Tk.stepT s.z.t s.M) = x.l) :
    Calls Try.prog 21 #[.pointer (some ⟨P, 0, none⟩)] w fun e w' => e = .returned (.tuple #[]) ∧ Mr w0 w' ∧ ∃ s', Pin w' P s' ∧ Tak s s' B C hh := by
  have hPw := h.row.lt
  obtain ⟨T1, hT1⟩ : ∃ T1, Tk.stepT s.z.t s.M = T1 := ⟨_, rfl⟩
  obtain ⟨M1, hM1⟩ : ∃ M1, Tk.stepM s.z.t s.M = M1 := ⟨_, rfl⟩
  obtain ⟨n, hn1⟩ : ∃ n, s.M.length = n := ⟨_, rfl⟩
  obtain ⟨n', hn2⟩ : ∃ n', (cut s.M).length = n' := ⟨_, rfl⟩
  have hM1l : M1.length = n' := by rw [← hM1, stepM_len, hn2]
  have hn0 : 0 < n' := by rw [← hn2]; unfold cut; rw [List.length_take]; omega
  obtain ⟨ca1, hca1⟩ : ∃ ca1, ta s.z.t s.z.ca = ca1 := ⟨_, rfl⟩
  obtain ⟨cc1, hcc1⟩ : ∃ cc1, tc s.z.t s.z.cc = cc1 := ⟨_, rfl⟩
  obtain ⟨V, hV⟩ : ∃ V, TV s.z.ca s.z.cc s.z.t = V := ⟨_, rfl⟩
  have hstep : ∀ W : World, Pin W P s → Calls Try.prog 31 #[.agg V, .slice s.am n s.km] W fun e w' => ∃ a' c', e = .returned (.tuple #[.agg (TV ca1 cc1 T1), .slice a' n' c']) ∧ (∀ b o, a' = some ⟨b, o, none⟩ → W.heap.size ≤ b) ∧ ∃ x : Ext W, w' = x.u ∧ Wl.Is x.u a' c' M1 := fun W hW => by
    rw [← hV, ← hT1, ← hM1, ← hca1, ← hcc1, ← hn2]
    exact tstep_v W hW.z hW.mem hn1
  have hTis : ∀ W : World, Pin W P s → Tis W ca1 cc1 T1 := fun W hW => by
    have := Tis.step hW.z hW.mem.bd
    rw [← hT1, ← hca1, ← hcc1]; exact this
  have hSw0 := h
  have hPV0 : (PV s)[0]? = some (.slice s.am n s.km) := by rw [← hn1]; exact PV_0 s
  have hTt := (hTis w h).2
  have hsz1 := sizeT (ca := ca1) (cc := cc1) hTt.len
  have hV1 : (TV ca1 cc1 T1).size = 36 := TV_size hTt.len
  have hVo1 := TV_one ca1 cc1 T1
  go_enter Try.func21, Try.ntmps21
  go_upto_region 0 with (fail)
  go_cut [2, 3] (fun u f wx => ∃ (U : Nat) (a' : Option Addr) (c' : Nat), u = .pointer (some ⟨U, 0, none⟩) ∧ f = .slice a' n' c' ∧ w.heap.size ≤ U ∧ Row wx U 27 (TV ca1 cc1 T1) ∧ Mr w wx ∧ Wl.Is wx a' c' M1 ∧ ∀ b o, a' = some ⟨b, o, none⟩ → w.heap.size ≤ b)
  case first =>
    refine wp_region_held_drew (S := fun w' => Pin w' P s) (by kernel_rfl) (h.mr (Mr.refl _).drew) (fun hHeld => ?_)
    (refine wpAnyH_take (i := 0) (v := .pointer (some ⟨P, 0, none⟩)) rfl (by kernel_rfl) (by kernel_rfl) (by kernel_rfl) (fun _ _ _ h => h) (Or.inl ⟨by kernel_rfl, fun w9 hSw => by simp [go_sem]⟩) hHeld ?_; try simp only [Act.put, List.setIfInBounds_toArray, List.set_cons_zero, List.set_cons_succ])
    (refine wpAnyH_take (i := 1) (v := .pointer (some ⟨P, 0, none⟩)) rfl (by kernel_rfl) (by kernel_rfl) (by kernel_rfl) (fun _ _ _ h => h) (Or.inl ⟨by kernel_rfl, fun w9 hSw => by simp [go_sem]⟩) hHeld ?_; try simp only [Act.put, List.setIfInBounds_toArray, List.set_cons_zero, List.set_cons_succ])
    (refine wpAnyH_take (i := 2) (v := .pointer (some ⟨P, 43, none⟩)) rfl (by kernel_rfl) (by kernel_rfl) (by kernel_rfl) (fun _ _ _ h => h) (Or.inl ⟨by kernel_rfl, fun w9 hSw => by simp [go_sem]⟩) hHeld ?_; try simp only [Act.put, List.setIfInBounds_toArray, List.set_cons_zero, List.set_cons_succ])
    (refine wpAnyH_take (i := 3) (v := .agg V) rfl (by kernel_rfl) (by kernel_rfl) (by kernel_rfl) (fun _ _ _ h => h) (by rw [← hV]; exact yieldsIf_load_mid (by rfl) _ _ rfl P 43 rfl (TV s.z.ca s.z.cc s.z.t).toList _ (fun w9 hSw => hSw.range_z) Try.underlying27 rfl (info_T (hSw0.rg.2))) hHeld ?_; try simp only [Act.put, List.setIfInBounds_toArray, List.set_cons_zero, List.set_cons_succ])
    (refine wpAnyH_take (i := 4) (v := .pointer (some ⟨P, 0, none⟩)) rfl (by kernel_rfl) (by kernel_rfl) (by kernel_rfl) (fun _ _ _ h => h) (Or.inl ⟨by kernel_rfl, fun w9 hSw => by simp [go_sem]⟩) hHeld ?_; try simp only [Act.put, List.setIfInBounds_toArray, List.set_cons_zero, List.set_cons_succ])
    (refine wpAnyH_take (i := 5) (v := .pointer (some ⟨P, 0, none⟩)) rfl (by kernel_rfl) (by kernel_rfl) (by kernel_rfl) (fun _ _ _ h => h) (Or.inl ⟨by kernel_rfl, fun w9 hSw => by simp [go_sem]⟩) hHeld ?_; try simp only [Act.put, List.setIfInBounds_toArray, List.set_cons_zero, List.set_cons_succ])
    (refine wpAnyH_take (i := 6) (v := .pointer (some ⟨P, 0, none⟩)) rfl (by kernel_rfl) (by kernel_rfl) (by kernel_rfl) (fun _ _ _ h => h) (Or.inl ⟨by kernel_rfl, fun w9 hSw => by simp [go_sem]⟩) hHeld ?_; try simp only [Act.put, List.setIfInBounds_toArray, List.set_cons_zero, List.set_cons_succ])
    (refine wpAnyH_take (i := 7) (v := .slice s.am n s.km) rfl (by kernel_rfl) (by kernel_rfl) (by kernel_rfl) (fun _ _ _ h => h) (Or.inl ⟨by kernel_rfl, fun w9 hSw => by have hc9 := (hSw.row.cell 0).trans hPV0; have hl9 := hSw.row.lt; simp [go_sem, hc9, hl9]⟩) hHeld ?_; try simp only [Act.put, List.setIfInBounds_toArray, List.set_cons_zero, List.set_cons_succ])
    refine wpAnyH_ready (rs := [8, 12]) (by kernel_rfl) (by simp) ?_
    refine AllReadyH.cons rfl (fun K hK => ?_) (AllReadyH.cons rfl (fun K hK => ?_) AllReadyH.nil)
    · go_simp
      go_at_call 31
      refine (hstep _ hHeld).mono ?_
      rintro e w' ⟨a1, c1, rfl, hf1, x, rfl, hI1⟩
      have hX := hHeld.mr x.h
      refine hK.out _ _ hX (fun hHeld => ?_)
      clear hK K
      try simp only [Act.put, List.setIfInBounds_toArray, List.set_cons_zero, List.set_cons_succ]
      (refine wpAnyH_take (i := 9) (v := .tuple #[.agg (TV ca1 cc1 T1), .slice a1 n' c1]) rfl (by kernel_rfl) (by kernel_rfl) (by kernel_rfl) (fun _ _ _ h => h) (Or.inl ⟨by kernel_rfl, fun w9 hSw => by simp [go_sem]⟩) hHeld ?_; try simp only [Act.put, List.setIfInBounds_toArray, List.set_cons_zero, List.set_cons_succ])
      (refine wpAnyH_take (i := 10) (v := .agg (TV ca1 cc1 T1)) rfl (by kernel_rfl) (by kernel_rfl) (by kernel_rfl) (fun _ _ _ h => h) (Or.inl ⟨by kernel_rfl, fun w9 hSw => by simp [go_sem]⟩) hHeld ?_; try simp only [Act.put, List.setIfInBounds_toArray, List.set_cons_zero, List.set_cons_succ])
      (refine wpAnyH_take (i := 11) (v := .slice a1 n' c1) rfl (by kernel_rfl) (by kernel_rfl) (by kernel_rfl) (fun _ _ _ h => h) (Or.inl ⟨by kernel_rfl, fun w9 hSw => by simp [go_sem]⟩) hHeld ?_; try simp only [Act.put, List.setIfInBounds_toArray, List.set_cons_zero, List.set_cons_succ])
      (refine wpAnyH_ready (rs := [12]) (by kernel_rfl) (by simp) ?_; refine AllReadyH.cons rfl (fun K hK => ?_) AllReadyH.nil)
      go_simp
      have hG := Row.new x.u 27 #[Value.slice none 0 0, Value.int IntKind.i64 0, Value.int IntKind.u64 0, Value.int IntKind.u64 0, Value.int IntKind.u64 0, Value.int IntKind.u64 0, Value.int IntKind.u64 0, Value.int IntKind.u64 0, Value.int IntKind.u64 0, Value.int IntKind.u64 0, Value.int IntKind.u64 0, Value.int IntKind.u64 0, Value.int IntKind.u64 0, Value.int IntKind.u64 0, Value.int IntKind.u64 0, Value.int IntKind.u64 0, Value.int IntKind.u64 0, Value.int IntKind.u64 0, Value.int IntKind.u64 0, Value.int IntKind.u64 0, Value.int IntKind.u64 0, Value.int IntKind.u64 0, Value.int IntKind.u64 0, Value.int IntKind.u64 0, Value.int IntKind.u64 0, Value.int IntKind.u64 0, Value.int IntKind.u64 0, Value.int IntKind.u64 0, Value.int IntKind.u64 0, Value.int IntKind.u64 0, Value.int IntKind.u64 0, Value.int IntKind.u64 0, Value.int IntKind.u64 0, Value.int IntKind.u64 0, Value.bool false, Value.int IntKind.i64 0]
      have mG : Mr x.u ((x.u.alloc (.cells #[Value.slice none 0 0, Value.int IntKind.i64 0, Value.int IntKind.u64 0, Value.int IntKind.u64 0, Value.int IntKind.u64 0, Value.int IntKind.u64 0, Value.int IntKind.u64 0, Value.int IntKind.u64 0, Value.int IntKind.u64 0, Value.int IntKind.u64 0, Value.int IntKind.u64 0, Value.int IntKind.u64 0, Value.int IntKind.u64 0, Value.int IntKind.u64 0, Value.int IntKind.u64 0, Value.int IntKind.u64 0, Value.int IntKind.u64 0, Value.int IntKind.u64 0, Value.int IntKind.u64 0, Value.int IntKind.u64 0, Value.int IntKind.u64 0, Value.int IntKind.u64 0, Value.int IntKind.u64 0, Value.int IntKind.u64 0, Value.int IntKind.u64 0, Value.int IntKind.u64 0, Value.int IntKind.u64 0, Value.int IntKind.u64 0, Value.int IntKind.u64 0, Value.int IntKind.u64 0, Value.int IntKind.u64 0, Value.int IntKind.u64 0, Value.int IntKind.u64 0, Value.int IntKind.u64 0, Value.bool false, Value.int IntKind.i64 0] 27)).setRow x.u.heap.size (TV ca1 cc1 T1)) := mr_row ((Mr.refl x.u).alloc _) (Nat.le_refl _) _
      refine hK.out _ _ (hX.mr ((Mr.refl _).alloc _)) (fun hHeld => ?_)
      clear hK K
      try simp only [Act.put, List.setIfInBounds_toArray, List.set_cons_zero, List.set_cons_succ]
      (refine wpAnyH_ready (rs := [13]) (by kernel_rfl) (by simp) ?_; refine AllReadyH.cons rfl (fun K hK => ?_) AllReadyH.nil)
      rw [if_pos (by rfl)]
      refine wp_store_row _ _ _ rfl x.u.heap.size (TV ca1 cc1 T1) rfl rfl 27 #[Value.slice none 0 0, Value.int IntKind.i64 0, Value.int IntKind.u64 0, Value.int IntKind.u64 0, Value.int IntKind.u64 0, Value.int IntKind.u64 0, Value.int IntKind.u64 0, Value.int IntKind.u64 0, Value.int IntKind.u64 0, Value.int IntKind.u64 0, Value.int IntKind.u64 0, Value.int IntKind.u64 0, Value.int IntKind.u64 0, Value.int IntKind.u64 0, Value.int IntKind.u64 0, Value.int IntKind.u64 0, Value.int IntKind.u64 0, Value.int IntKind.u64 0, Value.int IntKind.u64 0, Value.int IntKind.u64 0, Value.int IntKind.u64 0, Value.int IntKind.u64 0, Value.int IntKind.u64 0, Value.int IntKind.u64 0, Value.int IntKind.u64 0, Value.int IntKind.u64 0, Value.int IntKind.u64 0, Value.int IntKind.u64 0, Value.int IntKind.u64 0, Value.int IntKind.u64 0, Value.int IntKind.u64 0, Value.int IntKind.u64 0, Value.int IntKind.u64 0, Value.int IntKind.u64 0, Value.bool false, Value.int IntKind.i64 0] hG hsz1 (z36_size3.trans hV1.symm) hVo1 ?_
      refine hK.out _ _ (hX.mr mG) (fun hHeld => ?_)
      clear hK K
      try simp only [Act.put, List.setIfInBounds_toArray, List.set_cons_zero, List.set_cons_succ]
      (refine wpAnyH_ready (rs := [14]) (by kernel_rfl) (by simp) ?_; refine AllReadyH.cons rfl (fun K hK => ?_) AllReadyH.nil)
      go_simp
      refine hK.out _ _ hHeld (fun hHeld => ?_)
      clear hK K
      refine wpAnyH_done (by kernel_rfl) ?_ _
      go_wp2_with fail
      go_meet
      case rel => exact ⟨x.u.heap.size, a1, c1, rfl, rfl, x.h.below.size, Row.row hG _, ((Mr.refl w).drew.trans x.h).trans mG, hI1.mr mG, hf1⟩
    · go_simp
      have hHd := hHeld
      have hG := Row.new w.drew 27 #[Value.slice none 0 0, Value.int IntKind.i64 0, Value.int IntKind.u64 0, Value.int IntKind.u64 0, Value.int IntKind.u64 0, Value.int IntKind.u64 0, Value.int IntKind.u64 0, Value.int IntKind.u64 0, Value.int IntKind.u64 0, Value.int IntKind.u64 0, Value.int IntKind.u64 0, Value.int IntKind.u64 0, Value.int IntKind.u64 0, Value.int IntKind.u64 0, Value.int IntKind.u64 0, Value.int IntKind.u64 0, Value.int IntKind.u64 0, Value.int IntKind.u64 0, Value.int IntKind.u64 0, Value.int IntKind.u64 0, Value.int IntKind.u64 0, Value.int IntKind.u64 0, Value.int IntKind.u64 0, Value.int IntKind.u64 0, Value.int IntKind.u64 0, Value.int IntKind.u64 0, Value.int IntKind.u64 0, Value.int IntKind.u64 0, Value.int IntKind.u64 0, Value.int IntKind.u64 0, Value.int IntKind.u64 0, Value.int IntKind.u64 0, Value.int IntKind.u64 0, Value.int IntKind.u64 0, Value.bool false, Value.int IntKind.i64 0]
      have hX := hHeld.mr ((Mr.refl _).alloc (.cells #[Value.slice none 0 0, Value.int IntKind.i64 0, Value.int IntKind.u64 0, Value.int IntKind.u64 0, Value.int IntKind.u64 0, Value.int IntKind.u64 0, Value.int IntKind.u64 0, Value.int IntKind.u64 0, Value.int IntKind.u64 0, Value.int IntKind.u64 0, Value.int IntKind.u64 0, Value.int IntKind.u64 0, Value.int IntKind.u64 0, Value.int IntKind.u64 0, Value.int IntKind.u64 0, Value.int IntKind.u64 0, Value.int IntKind.u64 0, Value.int IntKind.u64 0, Value.int IntKind.u64 0, Value.int IntKind.u64 0, Value.int IntKind.u64 0, Value.int IntKind.u64 0, Value.int IntKind.u64 0, Value.int IntKind.u64 0, Value.int IntKind.u64 0, Value.int IntKind.u64 0, Value.int IntKind.u64 0, Value.int IntKind.u64 0, Value.int IntKind.u64 0, Value.int IntKind.u64 0, Value.int IntKind.u64 0, Value.int IntKind.u64 0, Value.int IntKind.u64 0, Value.int IntKind.u64 0, Value.bool false, Value.int IntKind.i64 0] 27))
      refine hK.out _ _ hX (fun hHeld => ?_)
      clear hK K
      try simp only [Act.put, List.setIfInBounds_toArray, List.set_cons_zero, List.set_cons_succ]
      (refine wpAnyH_ready (rs := [8]) (by kernel_rfl) (by simp) ?_; refine AllReadyH.cons rfl (fun K hK => ?_) AllReadyH.nil)
      go_simp
      go_at_call 31
      refine (hstep _ hHeld).mono ?_
      rintro e w' ⟨a1, c1, rfl, hf1, x, rfl, hI1⟩
      replace hX := hHeld.mr x.h
      refine hK.out _ _ hX (fun hHeld => ?_)
      clear hK K
      replace hG := hG.mr x.h
      have mx : Mr w x.u := ((Mr.refl w).drew.alloc _).trans x.h
      have mG : Mr w (x.u.setRow w.drew.heap.size (TV ca1 cc1 T1)) := mr_row mx (Nat.le_refl _) _
      try simp only [Act.put, List.setIfInBounds_toArray, List.set_cons_zero, List.set_cons_succ]
      (refine wpAnyH_take (i := 9) (v := .tuple #[.agg (TV ca1 cc1 T1), .slice a1 n' c1]) rfl (by kernel_rfl) (by kernel_rfl) (by kernel_rfl) (fun _ _ _ h => h) (Or.inl ⟨by kernel_rfl, fun w9 hSw => by simp [go_sem]⟩) hHeld ?_; try simp only [Act.put, List.setIfInBounds_toArray, List.set_cons_zero, List.set_cons_succ])
      (refine wpAnyH_take (i := 10) (v := .agg (TV ca1 cc1 T1)) rfl (by kernel_rfl) (by kernel_rfl) (by kernel_rfl) (fun _ _ _ h => h) (Or.inl ⟨by kernel_rfl, fun w9 hSw => by simp [go_sem]⟩) hHeld ?_; try simp only [Act.put, List.setIfInBounds_toArray, List.set_cons_zero, List.set_cons_succ])
      (refine wpAnyH_take (i := 11) (v := .slice a1 n' c1) rfl (by kernel_rfl) (by kernel_rfl) (by kernel_rfl) (fun _ _ _ h => h) (Or.inl ⟨by kernel_rfl, fun w9 hSw => by simp [go_sem]⟩) hHeld ?_; try simp only [Act.put, List.setIfInBounds_toArray, List.set_cons_zero, List.set_cons_succ])
      (refine wpAnyH_ready (rs := [13]) (by kernel_rfl) (by simp) ?_; refine AllReadyH.cons rfl (fun K hK => ?_) AllReadyH.nil)
      rw [if_pos (by rfl)]
      refine wp_store_row _ _ _ rfl w.drew.heap.size (TV ca1 cc1 T1) rfl rfl 27 #[Value.slice none 0 0, Value.int IntKind.i64 0, Value.int IntKind.u64 0, Value.int IntKind.u64 0, Value.int IntKind.u64 0, Value.int IntKind.u64 0, Value.int IntKind.u64 0, Value.int IntKind.u64 0, Value.int IntKind.u64 0, Value.int IntKind.u64 0, Value.int IntKind.u64 0, Value.int IntKind.u64 0, Value.int IntKind.u64 0, Value.int IntKind.u64 0, Value.int IntKind.u64 0, Value.int IntKind.u64 0, Value.int IntKind.u64 0, Value.int IntKind.u64 0, Value.int IntKind.u64 0, Value.int IntKind.u64 0, Value.int IntKind.u64 0, Value.int IntKind.u64 0, Value.int IntKind.u64 0, Value.int IntKind.u64 0, Value.int IntKind.u64 0, Value.int IntKind.u64 0, Value.int IntKind.u64 0, Value.int IntKind.u64 0, Value.int IntKind.u64 0, Value.int IntKind.u64 0, Value.int IntKind.u64 0, Value.int IntKind.u64 0, Value.int IntKind.u64 0, Value.int IntKind.u64 0, Value.bool false, Value.int IntKind.i64 0] hG hsz1 (z36_size3.trans hV1.symm) hVo1 ?_
      refine hK.out _ _ (h.mr mG) (fun hHeld => ?_)
      clear hK K
      try simp only [Act.put, List.setIfInBounds_toArray, List.set_cons_zero, List.set_cons_succ]
      (refine wpAnyH_ready (rs := [14]) (by kernel_rfl) (by simp) ?_; refine AllReadyH.cons rfl (fun K hK => ?_) AllReadyH.nil)
      go_simp
      refine hK.out _ _ hHeld (fun hHeld => ?_)
      clear hK K
      refine wpAnyH_done (by kernel_rfl) ?_ _
      go_wp2_with fail
      go_meet
      case rel => exact ⟨w.drew.heap.size, a1, c1, rfl, rfl, Nat.le_refl _, Row.row hG _, mG, wl_row hI1 (fun b o e => by have := hf1 b o e; simp at this; show b ≠ w.heap.size; omega) _, fun b o e => by have := hf1 b o e; simp at this; omega⟩
  case rest =>
    obtain ⟨U, a1, c1, rfl, rfl, hU, hRu, m1, hI1, hf1⟩ := hcut
    have hX := h.mr m1
    have hT2 := (hTis w h).mr m1
    have hyf := h.stepz s.M
    rw [hT1, hca1] at hyf
    have hUP : U ≠ P := by omega
    have hPU : ¬ P = U := fun e => hUP e.symm
    have hl1 := row_load (P := Try.prog) hRu hV1
    have mM := m0.trans m1
    have hFar : Far { s with z := ⟨ca1, cc1, T1⟩, am := a1, km := c1, M := M1, pp := s.pp + 1, ok := true } := fun g e => by
      have e : s.al = some ⟨g, 0, none⟩ := e
      have q := h.far g e
      have q2 := h.farz s.M e
      rw [hT1, hca1] at q2
      exact ⟨fun b o e' => by have := hf1 b o e'; have := (h.own_at e).2; omega, q.2.1, q.2.2.1, q2⟩
    clear hstep hTis h m0 m1 hPV0
    have rg1 : ({ s with z := ⟨ca1, cc1, T1⟩ } : Pl).rg := ⟨hX.rg.1, hTt.len⟩
    have kA : Ko P wc (wc.setCells P 43 (TV ca1 cc1 T1).toList) := (Ko.refl P wc).cells 43 _
    have rA : Row (wc.setCells P 43 (TV ca1 cc1 T1).toList) P 42 (PV { s with z := ⟨ca1, cc1, T1⟩ }) := by rw [← PV_setZ hX.rg ⟨ca1, cc1, T1⟩ hTt.len]; exact Row.cells hX.row 43 _
    have rU := kA.row hRu hUP
    have mA : Mr w0 (wc.setCells P 43 (TV ca1 cc1 T1).toList) := mr_cells mM hP _ _
    have iA := kA.wl hI1 (fun b o e => by have := hf1 b o e; omega)
    have tA := kA.tis hT2 hyf
    have yA := kA.tis hX.y hX.yf
    have af : ∀ b o, a1 = some ⟨b, o, none⟩ → b ≠ P := fun b o e => by have := hf1 b o e; omega
    go_upto_region 2 with (first | (refine wpList_store_mid rfl 27 _ _ rfl P 43 (TV ca1 cc1 T1) rfl rfl (by rw [hV1]; exact hX.there 43 (by omega)) hsz1 hVo1 ?_))
    generalize wc.setCells P 43 (TV ca1 cc1 T1).toList = X at *
    have c0 := (rA.cell 0).trans (PV_0 _)
    have c80 : X.cell? ⟨P, 80, none⟩ = some (.int .i64 s.pp) := (rA.cell 80).trans (PV_80 rg1)
    have c81 : X.cell? ⟨P, 81, none⟩ = some (.bool true) := by rw [← hok]; exact (rA.cell 81).trans (PV_81 rg1)
    have f0 := rA.froz 0
    have f80 := rA.froz 80
    have f81 := rA.froz 81
    have lX := rA.lt
    have u34 := (rU.cell 34).trans (TV_34 hTt.len)
    have u35 := (rU.cell 35).trans (TV_35 hTt.len)
    have lU := rU.lt
    have hpp2 := hpp.2
    clear hl1 hsz1 hVo1
    have kF : Ko P wc (((X.setCell ⟨P, 0, none⟩ (.slice a1 n' c1)).setCell ⟨P, 80, none⟩ (.int .i64 (s.pp + 1))).setCell ⟨P, 81, none⟩ (.bool true)) := ((kA.set 0 _).set 80 _).set 81 _
    have kG : Ko P X (((X.setCell ⟨P, 0, none⟩ (.slice a1 n' c1)).setCell ⟨P, 80, none⟩ (.int .i64 (s.pp + 1))).setCell ⟨P, 81, none⟩ (.bool true)) := (((Ko.refl P X).set 0 _).set 80 _).set 81 _
    have mF : Mr w0 (((X.setCell ⟨P, 0, none⟩ (.slice a1 n' c1)).setCell ⟨P, 80, none⟩ (.int .i64 (s.pp + 1))).setCell ⟨P, 81, none⟩ (.bool true)) := ((mA.setCell hP _).setCell hP _).setCell hP _
    have rF : Row (((X.setCell ⟨P, 0, none⟩ (.slice a1 n' c1)).setCell ⟨P, 80, none⟩ (.int .i64 (s.pp + 1))).setCell ⟨P, 81, none⟩ (.bool true)) P 42 (PV { s with z := ⟨ca1, cc1, T1⟩, am := a1, km := c1, M := M1, pp := s.pp + 1, ok := true }) := by
      have e0 := PV_set0 { s with z := ⟨ca1, cc1, T1⟩ } a1 M1 c1 n' hM1l
      have e1 := PV_set80 (s := { s with z := ⟨ca1, cc1, T1⟩, am := a1, km := c1, M := M1 }) rg1 (s.pp + 1)
      have e2 := PV_set81 (s := { s with z := ⟨ca1, cc1, T1⟩, am := a1, km := c1, M := M1, pp := s.pp + 1 }) rg1 true
      rw [← e2, ← e1, ← e0]
      exact ((rA.set 0 _).set 80 _).set 81 _
    have pF : Pin (((X.setCell ⟨P, 0, none⟩ (.slice a1 n' c1)).setCell ⟨P, 80, none⟩ (.int .i64 (s.pp + 1))).setCell ⟨P, 81, none⟩ (.bool true)) P { s with z := ⟨ca1, cc1, T1⟩, am := a1, km := c1, M := M1, pp := s.pp + 1, ok := true } :=
      hX.parts kF _ rF (kG.wl iA af) af rfl rfl rfl (kG.tis yA hX.yf) hX.yf (kG.tis tA hyf) hyf hFar
    have uF := kG.row rU hUP
    have hLN : T1.done = false → Tak s { s with z := ⟨ca1, cc1, T1⟩, am := a1, km := c1, M := M1, pp := s.pp + 1, ok := true } B C hh := fun hd => ⟨rfl, rfl, rfl, rfl, rfl, rfl, rfl, rfl, hM1.symm, .inl ⟨by rw [hT1]; exact hd, hT1.symm, rfl, eh⟩⟩
    have tF := kG.tis tA hyf
    have hl2 := row_load (P := Try.prog) uF hV1
    cases hd : T1.done
    · rw [hd] at u34
      clear u35 kA rA rU mA iA tA yA kF kG rF uF
      go_wp2
      exact bodyPost_ret (v := .tuple #[]) (by simp [results, Try.results21, go_sem]) rfl ⟨rfl, mF, _, pF, hLN hd⟩
    · rw [hd] at u34
      clear kA rA rU mA iA tA yA kF kG rF hLN u35
      by_cases ha : T1.ans = 1
      · obtain ⟨xe, hxe, htk⟩ := hTk (by rw [hT1]; exact hd) (by rw [hT1]; exact ha)
        rw [hT1] at htk
        have htl : tells T1 = true := by unfold tells; rw [hd, ha]; rfl
        have h6 : xe.l.length = 6 := pF.six xe (List.mem_of_getElem? hxe)
        clear hTk
        go_upto_region 8 with (first | (go_at_call 9; refine (gtaken_c _ tF).mono ?_; rw [htl, htk, h6]; rintro e w' ⟨aw, cw, rfl, x, rfl, hWk⟩; have hz := x.h; generalize x.u = W9 at *; clear x))
        have pX := pF.mr hz
        have mX := mF.trans hz
        obtain ⟨r, hr⟩ : ∃ r : Pl, r = { s with z := ⟨ca1, cc1, T1⟩, am := a1, km := c1, M := M1, pp := s.pp + 1, ok := true } := ⟨_, rfl⟩
        rw [← hr] at pX
        have hrL : r.L = s.L := by rw [hr]
        have hrh : r.h = hh := by rw [hr]; exact eh
        have hrk : r.ok = true := by rw [hr]
        have hxr : r.L[hh]? = some xe := by rw [hrL]; exact hxe
        obtain ⟨g, hg, hPg, hgl, hgc, hxw, -⟩ := pX.elem hxr
        obtain ⟨N, hN⟩ : ∃ N, r.L.length = N := ⟨_, rfl⟩
        obtain ⟨kl, hkl⟩ : ∃ kl, r.kl = kl := ⟨_, rfl⟩
        have hhN : hh < N := by rw [← hN]; exact (List.getElem?_eq_some_iff.1 hxr).1
        have hNb : N ≤ 1000 := by rw [← hN, hrL]; exact hL
        have k4 : (PV r)[4]? = some (.slice (some ⟨g, 0, none⟩) N kl) := by rw [PV_4, hg, hN, hkl]
        have k6 : (PV r)[6]? = some (.int .i64 hh) := by rw [PV_6, hrh]
        have k81 : (PV r)[81]? = some (.bool true) := by rw [PV_81 pX.rg, hrk]
        have k80 := PV_80 pX.rg
        have hel : ∀ W : World, Pin W P r → W.cell? ⟨g, hh, none⟩ = some (.slice xe.a 6 xe.c) ∧ g < W.heap.size := fun W hW => by
          obtain ⟨g', e1, _, e3, e4, _⟩ := hW.elem hxr
          rw [hg] at e1
          simp only [Option.some.injEq, Addr.mk.injEq] at e1
          obtain ⟨rfl, -⟩ := e1
          exact ⟨e4, e3⟩
        have hset : (PV r).setIfInBounds 81 (.bool true) = PV r := by
          rw [PV_set81 pX.rg]
          cases r
          simp only at hrk
          subst hrk
          rfl
        replace hr : Hid _ := hr
        clear pF mF uF hl2 tF c0 c80 c81 f0 f80 f81 lX u34 lU hpp2 hf1 hI1 hX hT2 hRu mM hFar rg1 af hgl hgc hxr hN hkl hrL
        have hlt1 : (hh : Int) < N := by omega
        have hlt2 : (hh : Int) ≤ (N : Int) - 1 := by omega
        have hlt3 : ¬ ((N : Int) - 1 < hh) := by omega
        have hlt4 : decide ((hh : Int) < N) = true := by simpa using hhN
        have hw1 : IntKind.i64.wrap ((N : Int) - 1) = (N : Int) - 1 := by rw [IntKind.wrap_i64]; omega
        have hnn : ¬ ((hh : Int) < 0) := by omega
        go_cut [] (fun wx => Pin wx P r ∧ Mr w0 wx)
        case first =>
          refine wp_region_held_drew (S := fun w' => Pin w' P r ∧ Mr w0 w') (by kernel_rfl) ⟨pX.mr (Mr.refl _).drew, mX.drew⟩ (fun hHeld => ?_)
          (refine wpAnyH_take (i := 0) (v := .pointer (some ⟨P, 0, none⟩)) rfl (by kernel_rfl) (by kernel_rfl) (by kernel_rfl) (fun _ _ _ h => h) (Or.inl ⟨by kernel_rfl, fun w9 hSw => by simp [go_sem]⟩) hHeld ?_; try simp only [Act.put, List.setIfInBounds_toArray, List.set_cons_zero, List.set_cons_succ])
          (refine wpAnyH_take (i := 1) (v := .pointer (some ⟨P, 0, none⟩)) rfl (by kernel_rfl) (by kernel_rfl) (by kernel_rfl) (fun _ _ _ h => h) (Or.inl ⟨by kernel_rfl, fun w9 hSw => by simp [go_sem]⟩) hHeld ?_; try simp only [Act.put, List.setIfInBounds_toArray, List.set_cons_zero, List.set_cons_succ])
          (refine wpAnyH_take (i := 2) (v := .pointer (some ⟨P, 0, none⟩)) rfl (by kernel_rfl) (by kernel_rfl) (by kernel_rfl) (fun _ _ _ h => h) (Or.inl ⟨by kernel_rfl, fun w9 hSw => by simp [go_sem]⟩) hHeld ?_; try simp only [Act.put, List.setIfInBounds_toArray, List.set_cons_zero, List.set_cons_succ])
          (refine wpAnyH_take (i := 3) (v := .pointer (some ⟨P, 81, none⟩)) rfl (by kernel_rfl) (by kernel_rfl) (by kernel_rfl) (fun _ _ _ h => h) (Or.inl ⟨by kernel_rfl, fun w9 hSw => by simp [go_sem]⟩) hHeld ?_; try simp only [Act.put, List.setIfInBounds_toArray, List.set_cons_zero, List.set_cons_succ])
          (refine wpAnyH_take (i := 4) (v := .bool true) rfl (by kernel_rfl) (by kernel_rfl) (by kernel_rfl) (fun _ _ _ h => h) (Or.inl ⟨by kernel_rfl, fun w9 hSw => by have hc9 := (hSw.1.row.cell 81).trans k81; have hl9 := hSw.1.row.lt; simp [go_sem, hc9, hl9]⟩) hHeld ?_; try simp only [Act.put, List.setIfInBounds_toArray, List.set_cons_zero, List.set_cons_succ])
          (refine wpAnyH_take (i := 5) (v := .bool true) rfl (by kernel_rfl) (by kernel_rfl) (by kernel_rfl) (fun _ _ _ h => h) (Or.inl ⟨by kernel_rfl, fun w9 hSw => by simp [go_sem]⟩) hHeld ?_; try simp only [Act.put, List.setIfInBounds_toArray, List.set_cons_zero, List.set_cons_succ])
          (refine wpAnyH_take (i := 6) (v := .pointer (some ⟨P, 0, none⟩)) rfl (by kernel_rfl) (by kernel_rfl) (by kernel_rfl) (fun _ _ _ h => h) (Or.inl ⟨by kernel_rfl, fun w9 hSw => by simp [go_sem]⟩) hHeld ?_; try simp only [Act.put, List.setIfInBounds_toArray, List.set_cons_zero, List.set_cons_succ])
          (refine wpAnyH_take (i := 7) (v := .pointer (some ⟨P, 0, none⟩)) rfl (by kernel_rfl) (by kernel_rfl) (by kernel_rfl) (fun _ _ _ h => h) (Or.inl ⟨by kernel_rfl, fun w9 hSw => by simp [go_sem]⟩) hHeld ?_; try simp only [Act.put, List.setIfInBounds_toArray, List.set_cons_zero, List.set_cons_succ])
          (refine wpAnyH_take (i := 8) (v := .pointer (some ⟨P, 6, none⟩)) rfl (by kernel_rfl) (by kernel_rfl) (by kernel_rfl) (fun _ _ _ h => h) (Or.inl ⟨by kernel_rfl, fun w9 hSw => by simp [go_sem]⟩) hHeld ?_; try simp only [Act.put, List.setIfInBounds_toArray, List.set_cons_zero, List.set_cons_succ])
          (refine wpAnyH_take (i := 9) (v := .int .i64 hh) rfl (by kernel_rfl) (by kernel_rfl) (by kernel_rfl) (fun _ _ _ h => h) (Or.inl ⟨by kernel_rfl, fun w9 hSw => by have hc9 := (hSw.1.row.cell 6).trans k6; have hl9 := hSw.1.row.lt; simp [go_sem, hc9, hl9]⟩) hHeld ?_; try simp only [Act.put, List.setIfInBounds_toArray, List.set_cons_zero, List.set_cons_succ])
          (refine wpAnyH_take (i := 10) (v := .pointer (some ⟨P, 0, none⟩)) rfl (by kernel_rfl) (by kernel_rfl) (by kernel_rfl) (fun _ _ _ h => h) (Or.inl ⟨by kernel_rfl, fun w9 hSw => by simp [go_sem]⟩) hHeld ?_; try simp only [Act.put, List.setIfInBounds_toArray, List.set_cons_zero, List.set_cons_succ])
          (refine wpAnyH_take (i := 11) (v := .pointer (some ⟨P, 0, none⟩)) rfl (by kernel_rfl) (by kernel_rfl) (by kernel_rfl) (fun _ _ _ h => h) (Or.inl ⟨by kernel_rfl, fun w9 hSw => by simp [go_sem]⟩) hHeld ?_; try simp only [Act.put, List.setIfInBounds_toArray, List.set_cons_zero, List.set_cons_succ])
          (refine wpAnyH_take (i := 12) (v := .pointer (some ⟨P, 4, none⟩)) rfl (by kernel_rfl) (by kernel_rfl) (by kernel_rfl) (fun _ _ _ h => h) (Or.inl ⟨by kernel_rfl, fun w9 hSw => by simp [go_sem]⟩) hHeld ?_; try simp only [Act.put, List.setIfInBounds_toArray, List.set_cons_zero, List.set_cons_succ])
          (refine wpAnyH_take (i := 13) (v := .slice (some ⟨g, 0, none⟩) N kl) rfl (by kernel_rfl) (by kernel_rfl) (by kernel_rfl) (fun _ _ _ h => h) (Or.inl ⟨by kernel_rfl, fun w9 hSw => by have hc9 := (hSw.1.row.cell 4).trans k4; have hl9 := hSw.1.row.lt; simp [go_sem, hc9, hl9]⟩) hHeld ?_; try simp only [Act.put, List.setIfInBounds_toArray, List.set_cons_zero, List.set_cons_succ])
          (refine wpAnyH_take (i := 14) (v := .int .i64 N) rfl (by kernel_rfl) (by kernel_rfl) (by kernel_rfl) (fun _ _ _ h => h) (Or.inl ⟨by kernel_rfl, fun w9 hSw => by simp [go_sem]⟩) hHeld ?_; try simp only [Act.put, List.setIfInBounds_toArray, List.set_cons_zero, List.set_cons_succ])
          (refine wpAnyH_take (i := 15) (v := .bool true) rfl (by kernel_rfl) (by kernel_rfl) (by kernel_rfl) (fun _ _ _ h => h) (Or.inl ⟨by kernel_rfl, fun w9 hSw => by simp [go_sem, hhN]⟩) hHeld ?_; try simp only [Act.put, List.setIfInBounds_toArray, List.set_cons_zero, List.set_cons_succ])
          (refine wpAnyH_take (i := 16) (v := .bool true) rfl (by kernel_rfl) (by kernel_rfl) (by kernel_rfl) (fun _ _ _ h => h) (Or.inl ⟨by kernel_rfl, fun w9 hSw => by simp [go_sem]⟩) hHeld ?_; try simp only [Act.put, List.setIfInBounds_toArray, List.set_cons_zero, List.set_cons_succ])
          (refine wpAnyH_take (i := 17) (v := .bool true) rfl (by kernel_rfl) (by kernel_rfl) (by kernel_rfl) (fun _ _ _ h => h) (Or.inl ⟨by kernel_rfl, fun w9 hSw => by simp [go_sem]⟩) hHeld ?_; try simp only [Act.put, List.setIfInBounds_toArray, List.set_cons_zero, List.set_cons_succ])
          (refine wpAnyH_take (i := 18) (v := .slice aw 6 cw) rfl (by kernel_rfl) (by kernel_rfl) (by kernel_rfl) (fun _ _ _ h => h) (Or.inl ⟨by kernel_rfl, fun w9 hSw => by simp [go_sem]⟩) hHeld ?_; try simp only [Act.put, List.setIfInBounds_toArray, List.set_cons_zero, List.set_cons_succ])
          (refine wpAnyH_take (i := 19) (v := .pointer (some ⟨P, 0, none⟩)) rfl (by kernel_rfl) (by kernel_rfl) (by kernel_rfl) (fun _ _ _ h => h) (Or.inl ⟨by kernel_rfl, fun w9 hSw => by simp [go_sem]⟩) hHeld ?_; try simp only [Act.put, List.setIfInBounds_toArray, List.set_cons_zero, List.set_cons_succ])
          (refine wpAnyH_take (i := 20) (v := .pointer (some ⟨P, 0, none⟩)) rfl (by kernel_rfl) (by kernel_rfl) (by kernel_rfl) (fun _ _ _ h => h) (Or.inl ⟨by kernel_rfl, fun w9 hSw => by simp [go_sem]⟩) hHeld ?_; try simp only [Act.put, List.setIfInBounds_toArray, List.set_cons_zero, List.set_cons_succ])
          (refine wpAnyH_take (i := 21) (v := .pointer (some ⟨P, 4, none⟩)) rfl (by kernel_rfl) (by kernel_rfl) (by kernel_rfl) (fun _ _ _ h => h) (Or.inl ⟨by kernel_rfl, fun w9 hSw => by simp [go_sem]⟩) hHeld ?_; try simp only [Act.put, List.setIfInBounds_toArray, List.set_cons_zero, List.set_cons_succ])
          (refine wpAnyH_take (i := 22) (v := .slice (some ⟨g, 0, none⟩) N kl) rfl (by kernel_rfl) (by kernel_rfl) (by kernel_rfl) (fun _ _ _ h => h) (Or.inl ⟨by kernel_rfl, fun w9 hSw => by have hc9 := (hSw.1.row.cell 4).trans k4; have hl9 := hSw.1.row.lt; simp [go_sem, hc9, hl9]⟩) hHeld ?_; try simp only [Act.put, List.setIfInBounds_toArray, List.set_cons_zero, List.set_cons_succ])
          (refine wpAnyH_take (i := 23) (v := .pointer (some ⟨P, 0, none⟩)) rfl (by kernel_rfl) (by kernel_rfl) (by kernel_rfl) (fun _ _ _ h => h) (Or.inl ⟨by kernel_rfl, fun w9 hSw => by simp [go_sem]⟩) hHeld ?_; try simp only [Act.put, List.setIfInBounds_toArray, List.set_cons_zero, List.set_cons_succ])
          (refine wpAnyH_take (i := 24) (v := .pointer (some ⟨P, 0, none⟩)) rfl (by kernel_rfl) (by kernel_rfl) (by kernel_rfl) (fun _ _ _ h => h) (Or.inl ⟨by kernel_rfl, fun w9 hSw => by simp [go_sem]⟩) hHeld ?_; try simp only [Act.put, List.setIfInBounds_toArray, List.set_cons_zero, List.set_cons_succ])
          (refine wpAnyH_take (i := 25) (v := .pointer (some ⟨P, 6, none⟩)) rfl (by kernel_rfl) (by kernel_rfl) (by kernel_rfl) (fun _ _ _ h => h) (Or.inl ⟨by kernel_rfl, fun w9 hSw => by simp [go_sem]⟩) hHeld ?_; try simp only [Act.put, List.setIfInBounds_toArray, List.set_cons_zero, List.set_cons_succ])
          (refine wpAnyH_take (i := 26) (v := .int .i64 hh) rfl (by kernel_rfl) (by kernel_rfl) (by kernel_rfl) (fun _ _ _ h => h) (Or.inl ⟨by kernel_rfl, fun w9 hSw => by have hc9 := (hSw.1.row.cell 6).trans k6; have hl9 := hSw.1.row.lt; simp [go_sem, hc9, hl9]⟩) hHeld ?_; try simp only [Act.put, List.setIfInBounds_toArray, List.set_cons_zero, List.set_cons_succ])
          (refine wpAnyH_take (i := 27) (v := .pointer (some ⟨P, 0, none⟩)) rfl (by kernel_rfl) (by kernel_rfl) (by kernel_rfl) (fun _ _ _ h => h) (Or.inl ⟨by kernel_rfl, fun w9 hSw => by simp [go_sem]⟩) hHeld ?_; try simp only [Act.put, List.setIfInBounds_toArray, List.set_cons_zero, List.set_cons_succ])
          (refine wpAnyH_take (i := 28) (v := .pointer (some ⟨P, 0, none⟩)) rfl (by kernel_rfl) (by kernel_rfl) (by kernel_rfl) (fun _ _ _ h => h) (Or.inl ⟨by kernel_rfl, fun w9 hSw => by simp [go_sem]⟩) hHeld ?_; try simp only [Act.put, List.setIfInBounds_toArray, List.set_cons_zero, List.set_cons_succ])
          (refine wpAnyH_take (i := 29) (v := .pointer (some ⟨P, 4, none⟩)) rfl (by kernel_rfl) (by kernel_rfl) (by kernel_rfl) (fun _ _ _ h => h) (Or.inl ⟨by kernel_rfl, fun w9 hSw => by simp [go_sem]⟩) hHeld ?_; try simp only [Act.put, List.setIfInBounds_toArray, List.set_cons_zero, List.set_cons_succ])
          (refine wpAnyH_take (i := 30) (v := .slice (some ⟨g, 0, none⟩) N kl) rfl (by kernel_rfl) (by kernel_rfl) (by kernel_rfl) (fun _ _ _ h => h) (Or.inl ⟨by kernel_rfl, fun w9 hSw => by have hc9 := (hSw.1.row.cell 4).trans k4; have hl9 := hSw.1.row.lt; simp [go_sem, hc9, hl9]⟩) hHeld ?_; try simp only [Act.put, List.setIfInBounds_toArray, List.set_cons_zero, List.set_cons_succ])
          (refine wpAnyH_take (i := 31) (v := .int .i64 N) rfl (by kernel_rfl) (by kernel_rfl) (by kernel_rfl) (fun _ _ _ h => h) (Or.inl ⟨by kernel_rfl, fun w9 hSw => by simp [go_sem]⟩) hHeld ?_; try simp only [Act.put, List.setIfInBounds_toArray, List.set_cons_zero, List.set_cons_succ])
          (refine wpAnyH_take (i := 32) (v := .int .i64 ((N : Int) - 1)) rfl (by kernel_rfl) (by kernel_rfl) (by kernel_rfl) (fun _ _ _ h => h) (Or.inl ⟨by kernel_rfl, fun w9 hSw => by simp [go_sem, hw1]⟩) hHeld ?_; try simp only [Act.put, List.setIfInBounds_toArray, List.set_cons_zero, List.set_cons_succ])
          (refine wpAnyH_take (i := 33) (v := .int .i64 hh) rfl (by kernel_rfl) (by kernel_rfl) (by kernel_rfl) (fun _ _ _ h => h) (Or.inl ⟨by kernel_rfl, fun w9 hSw => by simp [go_sem, hlt2, hlt3]⟩) hHeld ?_; try simp only [Act.put, List.setIfInBounds_toArray, List.set_cons_zero, List.set_cons_succ])
          (refine wpAnyH_take (i := 34) (v := .pointer (some ⟨g, hh, none⟩)) rfl (by kernel_rfl) (by kernel_rfl) (by kernel_rfl) (fun _ _ _ h => h) (Or.inl ⟨by kernel_rfl, fun w9 hSw => by simp [go_sem, hhN, hnn]⟩) hHeld ?_; try simp only [Act.put, List.setIfInBounds_toArray, List.set_cons_zero, List.set_cons_succ])
          (refine wpAnyH_take (i := 35) (v := .slice xe.a 6 xe.c) rfl (by kernel_rfl) (by kernel_rfl) (by kernel_rfl) (fun _ _ _ h => h) (Or.inl ⟨by kernel_rfl, fun w9 hSw => by have hc9 := (hel w9 hSw.1).1; have hl9 := (hel w9 hSw.1).2; simp [go_sem, hc9, hl9]⟩) hHeld ?_; try simp only [Act.put, List.setIfInBounds_toArray, List.set_cons_zero, List.set_cons_succ])
          (refine wpAnyH_ready (rs := [36]) (by kernel_rfl) (by simp) ?_; refine AllReadyH.cons rfl (fun K hK => ?_) AllReadyH.nil)
          go_simp
          go_at_call 18
          refine (rsame11_c _ (hWk.mr (Mr.refl _).drew) h6 (hxw.mr (Mr.refl _).drew) h6).mono ?_
          rw [decide_eq_true (rfl : xe.l = xe.l)]
          rintro e w' ⟨rfl, y, rfl⟩
          refine hK.out _ _ ⟨hHeld.1.mr y.h, hHeld.2.trans y.h⟩ (fun hHeld => ?_)
          clear hK K
          try simp only [Act.put, List.setIfInBounds_toArray, List.set_cons_zero, List.set_cons_succ]
          (refine wpAnyH_take (i := 37) (v := .bool true) rfl (by kernel_rfl) (by kernel_rfl) (by kernel_rfl) (fun _ _ _ h => h) (Or.inl ⟨by kernel_rfl, fun w9 hSw => by simp [go_sem]⟩) hHeld ?_; try simp only [Act.put, List.setIfInBounds_toArray, List.set_cons_zero, List.set_cons_succ])
          (refine wpAnyH_take (i := 38) (v := .pointer (some ⟨P, 0, none⟩)) rfl (by kernel_rfl) (by kernel_rfl) (by kernel_rfl) (fun _ _ _ h => h) (Or.inl ⟨by kernel_rfl, fun w9 hSw => by simp [go_sem]⟩) hHeld ?_; try simp only [Act.put, List.setIfInBounds_toArray, List.set_cons_zero, List.set_cons_succ])
          (refine wpAnyH_take (i := 39) (v := .pointer (some ⟨P, 81, none⟩)) rfl (by kernel_rfl) (by kernel_rfl) (by kernel_rfl) (fun _ _ _ h => h) (Or.inl ⟨by kernel_rfl, fun w9 hSw => by simp [go_sem]⟩) hHeld ?_; try simp only [Act.put, List.setIfInBounds_toArray, List.set_cons_zero, List.set_cons_succ])
          (refine wpAnyH_ready (rs := [40]) (by kernel_rfl) (by simp) ?_; refine AllReadyH.cons rfl (fun K hK => ?_) AllReadyH.nil)
          have q81 := (hHeld.1.row.cell 81).trans k81
          have fq81 := hHeld.1.row.froz 81
          have lq81 := hHeld.1.row.lt
          have rT : Row (y.u.setCell ⟨P, 81, none⟩ (.bool true)) P 42 (PV r) := by
            have := hHeld.1.row.set 81 (.bool true)
            rw [hset] at this
            exact this
          have pT := hHeld.1.turn ((Ko.refl P y.u).set 81 _) r rT rfl rfl rfl rfl rfl rfl rfl rfl
          have mT : Mr w0 (y.u.setCell ⟨P, 81, none⟩ (.bool true)) := hHeld.2.setCell hP _
          go_simp
          refine hK.out _ _ ⟨pT, mT⟩ (fun hHeld => ?_)
          clear hK K
          try simp only [Act.put, List.setIfInBounds_toArray, List.set_cons_zero, List.set_cons_succ]
          refine wpAnyH_done (by kernel_rfl) ?_ _
          go_wp2_with fail
          go_meet
          case rel => exact hHeld
        case rest =>
          obtain ⟨pY, mY⟩ := hcut
          generalize wc = Y at *
          clear pX mX hWk hxw hel hset k81 k4 hlt1 hlt2 hlt3 hlt4 hw1 hnn
          have c6 := (pY.row.cell 6).trans k6
          have c80 := (pY.row.cell 80).trans k80
          have f6 := pY.row.froz 6
          have f80 := pY.row.froz 80
          have lY := pY.row.lt
          have rG : Row ((Y.setCell ⟨P, 6, none⟩ (.int .i64 ((hh : Int) + 1))).setCell ⟨P, 80, none⟩ (.int .i64 0)) P 42 (PV { r with h := (hh : Int) + 1, pp := 0 }) := by
            rw [← PV_set80 (s := { r with h := (hh : Int) + 1 }) pY.rg 0, ← PV_set6 r ((hh : Int) + 1)]
            exact (pY.row.set 6 _).set 80 _
          have pG := pY.turn (((Ko.refl P Y).set 6 _).set 80 _) { r with h := (hh : Int) + 1, pp := 0 } rG rfl rfl rfl rfl rfl rfl rfl rfl
          have mG := (mY.setCell hP (a := ⟨P, 6, none⟩) (.int .i64 ((hh : Int) + 1))).setCell hP (a := ⟨P, 80, none⟩) (.int .i64 0)
          clear pY mY rG
          go_upto_region 11 with (fail)
          generalize (Y.setCell ⟨P, 6, none⟩ (.int .i64 ((hh : Int) + 1))).setCell ⟨P, 80, none⟩ (.int .i64 0) = Z at *
          clear c6 c80 f6 f80 lY
          obtain ⟨h3, hh3⟩ : ∃ h3 : Nat, h3 = hh + 1 := ⟨_, rfl⟩
          have hh3b : h3 ≤ 1001 := by omega
          obtain ⟨r2, hr2⟩ : ∃ r2 : Pl, r2 = { r with h := (hh : Int) + 1, pp := 0 } := ⟨_, rfl⟩
          rw [← hr2] at pG
          have hend : ∀ cs ks T2, T2 = Tk.start (popL B C (h3 : Int)) → Tak s { r2 with z := ⟨cs, ks, T2⟩ } B C hh := fun cs ks T2 e => by
            have hr := hr.out
            subst hr2 hr hh3
            refine ⟨rfl, rfl, rfl, rfl, rfl, rfl, rfl, rfl, hM1.symm, .inr (.inl ⟨by rw [hT1]; exact hd, by rw [hT1]; exact ha, rfl, rfl, e⟩)⟩
          have hrb : r2.b = B := by rw [hr2, hr.out]; exact eb
          have hrc : r2.c = C := by rw [hr2, hr.out]; exact ec
          have hrh3 : r2.h = (h3 : Int) := by rw [hr2, hh3]; rfl
          clear hr2 hh3
          have lh0 : Lh Z P B C h3 := by have e := pG.lh; rw [hrb, hrc, hrh3] at e; exact e
          obtain ⟨T2, hT2⟩ : ∃ T2, Tk.start (popL B C (h3 : Int)) = T2 := ⟨_, rfl⟩
          refine wp_region_held_drew (S := fun w' => Lh w' P B C h3) (by kernel_rfl) (lh0.mr (Mr.refl _).drew) (fun hHeld => ?_)
          (refine wpAnyH_take (i := 0) (v := .pointer (some ⟨P, 0, none⟩)) rfl (by kernel_rfl) (by kernel_rfl) (by kernel_rfl) (fun _ _ _ h => h) (Or.inl ⟨by kernel_rfl, fun w9 hSw => by simp [go_sem]⟩) hHeld ?_; try simp only [Act.put, List.setIfInBounds_toArray, List.set_cons_zero, List.set_cons_succ])
          (refine wpAnyH_take (i := 1) (v := .pointer (some ⟨P, 0, none⟩)) rfl (by kernel_rfl) (by kernel_rfl) (by kernel_rfl) (fun _ _ _ h => h) (Or.inl ⟨by kernel_rfl, fun w9 hSw => by simp [go_sem]⟩) hHeld ?_; try simp only [Act.put, List.setIfInBounds_toArray, List.set_cons_zero, List.set_cons_succ])
          (refine wpAnyH_take (i := 2) (v := .pointer (some ⟨P, 0, none⟩)) rfl (by kernel_rfl) (by kernel_rfl) (by kernel_rfl) (fun _ _ _ h => h) (Or.inl ⟨by kernel_rfl, fun w9 hSw => by simp [go_sem]⟩) hHeld ?_; try simp only [Act.put, List.setIfInBounds_toArray, List.set_cons_zero, List.set_cons_succ])
          (refine wpAnyH_take (i := 3) (v := .pointer (some ⟨P, 1, none⟩)) rfl (by kernel_rfl) (by kernel_rfl) (by kernel_rfl) (fun _ _ _ h => h) (Or.inl ⟨by kernel_rfl, fun w9 hSw => by simp [go_sem]⟩) hHeld ?_; try simp only [Act.put, List.setIfInBounds_toArray, List.set_cons_zero, List.set_cons_succ])
          (refine wpAnyH_take (i := 4) (v := .int .i64 B) rfl (by kernel_rfl) (by kernel_rfl) (by kernel_rfl) (fun _ _ _ h => h) (Or.inl ⟨by kernel_rfl, fun w9 hSw => by have hc9 := hSw.c1; have hl9 := hSw.lt; simp [go_sem, hc9, hl9]⟩) hHeld ?_; try simp only [Act.put, List.setIfInBounds_toArray, List.set_cons_zero, List.set_cons_succ])
          (refine wpAnyH_take (i := 5) (v := .pointer (some ⟨P, 0, none⟩)) rfl (by kernel_rfl) (by kernel_rfl) (by kernel_rfl) (fun _ _ _ h => h) (Or.inl ⟨by kernel_rfl, fun w9 hSw => by simp [go_sem]⟩) hHeld ?_; try simp only [Act.put, List.setIfInBounds_toArray, List.set_cons_zero, List.set_cons_succ])
          (refine wpAnyH_take (i := 6) (v := .pointer (some ⟨P, 0, none⟩)) rfl (by kernel_rfl) (by kernel_rfl) (by kernel_rfl) (fun _ _ _ h => h) (Or.inl ⟨by kernel_rfl, fun w9 hSw => by simp [go_sem]⟩) hHeld ?_; try simp only [Act.put, List.setIfInBounds_toArray, List.set_cons_zero, List.set_cons_succ])
          (refine wpAnyH_take (i := 7) (v := .pointer (some ⟨P, 2, none⟩)) rfl (by kernel_rfl) (by kernel_rfl) (by kernel_rfl) (fun _ _ _ h => h) (Or.inl ⟨by kernel_rfl, fun w9 hSw => by simp [go_sem]⟩) hHeld ?_; try simp only [Act.put, List.setIfInBounds_toArray, List.set_cons_zero, List.set_cons_succ])
          (refine wpAnyH_take (i := 8) (v := .int .i64 C) rfl (by kernel_rfl) (by kernel_rfl) (by kernel_rfl) (fun _ _ _ h => h) (Or.inl ⟨by kernel_rfl, fun w9 hSw => by have hc9 := hSw.c2; have hl9 := hSw.lt; simp [go_sem, hc9, hl9]⟩) hHeld ?_; try simp only [Act.put, List.setIfInBounds_toArray, List.set_cons_zero, List.set_cons_succ])
          (refine wpAnyH_take (i := 9) (v := .pointer (some ⟨P, 0, none⟩)) rfl (by kernel_rfl) (by kernel_rfl) (by kernel_rfl) (fun _ _ _ h => h) (Or.inl ⟨by kernel_rfl, fun w9 hSw => by simp [go_sem]⟩) hHeld ?_; try simp only [Act.put, List.setIfInBounds_toArray, List.set_cons_zero, List.set_cons_succ])
          (refine wpAnyH_take (i := 10) (v := .pointer (some ⟨P, 0, none⟩)) rfl (by kernel_rfl) (by kernel_rfl) (by kernel_rfl) (fun _ _ _ h => h) (Or.inl ⟨by kernel_rfl, fun w9 hSw => by simp [go_sem]⟩) hHeld ?_; try simp only [Act.put, List.setIfInBounds_toArray, List.set_cons_zero, List.set_cons_succ])
          (refine wpAnyH_take (i := 11) (v := .pointer (some ⟨P, 6, none⟩)) rfl (by kernel_rfl) (by kernel_rfl) (by kernel_rfl) (fun _ _ _ h => h) (Or.inl ⟨by kernel_rfl, fun w9 hSw => by simp [go_sem]⟩) hHeld ?_; try simp only [Act.put, List.setIfInBounds_toArray, List.set_cons_zero, List.set_cons_succ])
          (refine wpAnyH_take (i := 12) (v := .int .i64 h3) rfl (by kernel_rfl) (by kernel_rfl) (by kernel_rfl) (fun _ _ _ h => h) (Or.inl ⟨by kernel_rfl, fun w9 hSw => by have hc9 := hSw.c6; have hl9 := hSw.lt; simp [go_sem, hc9, hl9]⟩) hHeld ?_; try simp only [Act.put, List.setIfInBounds_toArray, List.set_cons_zero, List.set_cons_succ])
          (refine wpAnyH_ready (rs := [13]) (by kernel_rfl) (by simp) ?_; refine AllReadyH.cons rfl (fun K hK => ?_) AllReadyH.nil)
          go_simp
          go_at_call 16
          refine (gpop_f _ _ _ _ (by omega) (by omega) (by omega)).mono ?_
          rw [pop_is hC hB]
          rintro e w' ⟨ap, kp, rfl, hfp, xp, rfl, hCp⟩
          refine hK.out _ _ (hHeld.mr xp.h) (fun hHeld => ?_)
          clear hK K
          try simp only [Act.put, List.setIfInBounds_toArray, List.set_cons_zero, List.set_cons_succ]
          (refine wpAnyH_ready (rs := [14]) (by kernel_rfl) (by simp) ?_; refine AllReadyH.cons rfl (fun K hK => ?_) AllReadyH.nil)
          go_simp
          go_at_call 24
          refine (tstart_f _ hCp rfl).mono ?_
          rw [hT2]
          rintro e w' ⟨cs, ks, rfl, hfs, xs, rfl, hTs⟩
          refine hK.out _ _ (hHeld.mr xs.h) (fun hHeld => ?_)
          clear hK K
          try simp only [Act.put, List.setIfInBounds_toArray, List.set_cons_zero, List.set_cons_succ]
          (refine wpAnyH_take (i := 15) (v := .pointer (some ⟨P, 0, none⟩)) rfl (by kernel_rfl) (by kernel_rfl) (by kernel_rfl) (fun _ _ _ h => h) (Or.inl ⟨by kernel_rfl, fun w9 hSw => by simp [go_sem]⟩) hHeld ?_; try simp only [Act.put, List.setIfInBounds_toArray, List.set_cons_zero, List.set_cons_succ])
          (refine wpAnyH_take (i := 16) (v := .pointer (some ⟨P, 43, none⟩)) rfl (by kernel_rfl) (by kernel_rfl) (by kernel_rfl) (fun _ _ _ h => h) (Or.inl ⟨by kernel_rfl, fun w9 hSw => by simp [go_sem]⟩) hHeld ?_; try simp only [Act.put, List.setIfInBounds_toArray, List.set_cons_zero, List.set_cons_succ])
          (refine wpAnyH_ready (rs := [17]) (by kernel_rfl) (by simp) ?_; refine AllReadyH.cons rfl (fun K hK => ?_) AllReadyH.nil)
          have mZ := ((Mr.refl Z).drew.trans xp.h).trans xs.h
          have pW := pG.mr mZ
          have hcs : ∀ b o, cs = some ⟨b, o, none⟩ → Z.heap.size ≤ b := fun b o e => hfp b o (hfs b o e)
          have hyf2 : T2.code ≠ [] → ∀ b o, cs = some ⟨b, o, none⟩ → b ≠ P := fun _ b o e => by have := hcs b o e; have := pG.row.lt; omega
          have kC : Ko P xs.u (xs.u.setCells P 43 (TV cs ks T2).toList) := (Ko.refl P xs.u).cells 43 _
          have rC : Row (xs.u.setCells P 43 (TV cs ks T2).toList) P 42 (PV { r2 with z := ⟨cs, ks, T2⟩ }) := by rw [← PV_setZ pW.rg ⟨cs, ks, T2⟩ hTs.2.len]; exact Row.cells pW.row 43 _
          have fC : Far { r2 with z := ⟨cs, ks, T2⟩ } := fun g e => by
            have e : r2.al = some ⟨g, 0, none⟩ := e
            have q := pG.far g e
            exact ⟨q.1, q.2.1, q.2.2.1, fun _ b o e' => by have := hcs b o e'; have := (pG.own_at e).2; omega⟩
          have pC := pW.parts kC { r2 with z := ⟨cs, ks, T2⟩ } rC (kC.wl pW.mem pW.memf) pW.memf rfl rfl rfl (kC.tis pW.y pW.yf) pW.yf (kC.tis hTs hyf2) hyf2 fC
          have mC : Mr w0 (xs.u.setCells P 43 (TV cs ks T2).toList) := mr_cells (mG.trans mZ) hP _ _
          have hV2 : (TV cs ks T2).size = 36 := TV_size hTs.2.len
          rw [if_pos (by rfl)]
          refine wp_store_mid 27 _ _ rfl P 43 (TV cs ks T2) rfl rfl (by rw [hV2]; exact pW.there 43 (by omega)) (sizeT hTs.2.len) (TV_one cs ks T2) ?_
          have lhC : Lh (xs.u.setCells P 43 (TV cs ks T2).toList) P B C h3 := by have e := pC.lh; rw [← hrb, ← hrc, ← hrh3]; exact e
          refine hK.out _ _ lhC (fun hHeld => ?_)
          clear hK K
          try simp only [Act.put, List.setIfInBounds_toArray, List.set_cons_zero, List.set_cons_succ]
          refine wpAnyH_done (by kernel_rfl) ?_ _
          go_wp2_with fail
          exact bodyPost_end (v := .tuple #[]) (by simp [results, Try.results21, go_sem]) rfl ⟨rfl, mC, _, pC, hend cs ks T2 hT2.symm⟩
      · have hne : ¬ T1.ans = 1 := ha
        have htl : tells T1 = false := by unfold tells; rw [hd, decide_eq_false ha]; rfl
        have htk : taken T1 = ([] : List Int) := by unfold taken; rw [htl]; rfl
        have h6 : ([] : List Int).length = 0 := rfl
        clear hTk
        go_upto_region 10 with (first | (go_at_call 9; refine (gtaken_c _ tF).mono ?_; rw [htl, htk, h6]; rintro e w' ⟨aw, cw, rfl, x, rfl, hWk⟩; have hz := x.h; generalize x.u = W9 at *; clear x))
        have pX := pF.mr hz
        have mX := mF.trans hz
        obtain ⟨r, hr⟩ : ∃ r : Pl, r = { s with z := ⟨ca1, cc1, T1⟩, am := a1, km := c1, M := M1, pp := s.pp + 1, ok := true } := ⟨_, rfl⟩
        rw [← hr] at pX
        have hrh : r.h = hh := by rw [hr]; exact eh
        clear pF mF uF hl2 tF c0 c80 c81 f0 f80 f81 lX u34 lU hpp2 hf1 hI1 hX hT2 hRu mM hFar rg1 af hWk
        have rG : Row (W9.setCell ⟨P, 80, none⟩ (.int .i64 0)) P 42 (PV { r with pp := 0 }) := by
          rw [← PV_set80 (s := r) pX.rg 0]
          exact pX.row.set 80 _
        have pG := pX.turn ((Ko.refl P W9).set 80 _) { r with pp := 0 } rG rfl rfl rfl rfl rfl rfl rfl rfl
        have mG := mX.setCell hP (a := ⟨P, 80, none⟩) (.int .i64 0)
        have c80 := (pX.row.cell 80).trans (PV_80 pX.rg)
        have f80 := pX.row.froz 80
        have lY := pX.row.lt
        replace hr : Hid _ := hr
        clear rG pX mX hz
        go_upto_region 11 with (fail)
        generalize W9.setCell ⟨P, 80, none⟩ (.int .i64 0) = Z at *
        clear c80 f80 lY
        obtain ⟨h3, hh3⟩ : ∃ h3 : Nat, h3 = hh := ⟨_, rfl⟩
        have hh3b : h3 ≤ 1001 := by omega
        obtain ⟨r2, hr2⟩ : ∃ r2 : Pl, r2 = { r with pp := 0 } := ⟨_, rfl⟩
        rw [← hr2] at pG
        have hend : ∀ cs ks T2, T2 = Tk.start (popL B C (h3 : Int)) → Tak s { r2 with z := ⟨cs, ks, T2⟩ } B C hh := fun cs ks T2 e => by
          have hr := hr.out
          subst hr2 hr hh3
          refine ⟨rfl, rfl, rfl, rfl, rfl, rfl, rfl, rfl, hM1.symm, .inr (.inr ⟨by rw [hT1]; exact hd, by rw [hT1]; exact ha, eh, rfl, e⟩)⟩
        have hrb : r2.b = B := by rw [hr2, hr.out]; exact eb
        have hrc : r2.c = C := by rw [hr2, hr.out]; exact ec
        have hrh3 : r2.h = (h3 : Int) := by rw [hr2, hh3]; exact hrh
        clear hr2 hh3
        have lh0 : Lh Z P B C h3 := by have e := pG.lh; rw [hrb, hrc, hrh3] at e; exact e
        obtain ⟨T2, hT2⟩ : ∃ T2, Tk.start (popL B C (h3 : Int)) = T2 := ⟨_, rfl⟩
        refine wp_region_held_drew (S := fun w' => Lh w' P B C h3) (by kernel_rfl) (lh0.mr (Mr.refl _).drew) (fun hHeld => ?_)
        (refine wpAnyH_take (i := 0) (v := .pointer (some ⟨P, 0, none⟩)) rfl (by kernel_rfl) (by kernel_rfl) (by kernel_rfl) (fun _ _ _ h => h) (Or.inl ⟨by kernel_rfl, fun w9 hSw => by simp [go_sem]⟩) hHeld ?_; try simp only [Act.put, List.setIfInBounds_toArray, List.set_cons_zero, List.set_cons_succ])
        (refine wpAnyH_take (i := 1) (v := .pointer (some ⟨P, 0, none⟩)) rfl (by kernel_rfl) (by kernel_rfl) (by kernel_rfl) (fun _ _ _ h => h) (Or.inl ⟨by kernel_rfl, fun w9 hSw => by simp [go_sem]⟩) hHeld ?_; try simp only [Act.put, List.setIfInBounds_toArray, List.set_cons_zero, List.set_cons_succ])
        (refine wpAnyH_take (i := 2) (v := .pointer (some ⟨P, 0, none⟩)) rfl (by kernel_rfl) (by kernel_rfl) (by kernel_rfl) (fun _ _ _ h => h) (Or.inl ⟨by kernel_rfl, fun w9 hSw => by simp [go_sem]⟩) hHeld ?_; try simp only [Act.put, List.setIfInBounds_toArray, List.set_cons_zero, List.set_cons_succ])
        (refine wpAnyH_take (i := 3) (v := .pointer (some ⟨P, 1, none⟩)) rfl (by kernel_rfl) (by kernel_rfl) (by kernel_rfl) (fun _ _ _ h => h) (Or.inl ⟨by kernel_rfl, fun w9 hSw => by simp [go_sem]⟩) hHeld ?_; try simp only [Act.put, List.setIfInBounds_toArray, List.set_cons_zero, List.set_cons_succ])
        (refine wpAnyH_take (i := 4) (v := .int .i64 B) rfl (by kernel_rfl) (by kernel_rfl) (by kernel_rfl) (fun _ _ _ h => h) (Or.inl ⟨by kernel_rfl, fun w9 hSw => by have hc9 := hSw.c1; have hl9 := hSw.lt; simp [go_sem, hc9, hl9]⟩) hHeld ?_; try simp only [Act.put, List.setIfInBounds_toArray, List.set_cons_zero, List.set_cons_succ])
        (refine wpAnyH_take (i := 5) (v := .pointer (some ⟨P, 0, none⟩)) rfl (by kernel_rfl) (by kernel_rfl) (by kernel_rfl) (fun _ _ _ h => h) (Or.inl ⟨by kernel_rfl, fun w9 hSw => by simp [go_sem]⟩) hHeld ?_; try simp only [Act.put, List.setIfInBounds_toArray, List.set_cons_zero, List.set_cons_succ])
        (refine wpAnyH_take (i := 6) (v := .pointer (some ⟨P, 0, none⟩)) rfl (by kernel_rfl) (by kernel_rfl) (by kernel_rfl) (fun _ _ _ h => h) (Or.inl ⟨by kernel_rfl, fun w9 hSw => by simp [go_sem]⟩) hHeld ?_; try simp only [Act.put, List.setIfInBounds_toArray, List.set_cons_zero, List.set_cons_succ])
        (refine wpAnyH_take (i := 7) (v := .pointer (some ⟨P, 2, none⟩)) rfl (by kernel_rfl) (by kernel_rfl) (by kernel_rfl) (fun _ _ _ h => h) (Or.inl ⟨by kernel_rfl, fun w9 hSw => by simp [go_sem]⟩) hHeld ?_; try simp only [Act.put, List.setIfInBounds_toArray, List.set_cons_zero, List.set_cons_succ])
        (refine wpAnyH_take (i := 8) (v := .int .i64 C) rfl (by kernel_rfl) (by kernel_rfl) (by kernel_rfl) (fun _ _ _ h => h) (Or.inl ⟨by kernel_rfl, fun w9 hSw => by have hc9 := hSw.c2; have hl9 := hSw.lt; simp [go_sem, hc9, hl9]⟩) hHeld ?_; try simp only [Act.put, List.setIfInBounds_toArray, List.set_cons_zero, List.set_cons_succ])
        (refine wpAnyH_take (i := 9) (v := .pointer (some ⟨P, 0, none⟩)) rfl (by kernel_rfl) (by kernel_rfl) (by kernel_rfl) (fun _ _ _ h => h) (Or.inl ⟨by kernel_rfl, fun w9 hSw => by simp [go_sem]⟩) hHeld ?_; try simp only [Act.put, List.setIfInBounds_toArray, List.set_cons_zero, List.set_cons_succ])
        (refine wpAnyH_take (i := 10) (v := .pointer (some ⟨P, 0, none⟩)) rfl (by kernel_rfl) (by kernel_rfl) (by kernel_rfl) (fun _ _ _ h => h) (Or.inl ⟨by kernel_rfl, fun w9 hSw => by simp [go_sem]⟩) hHeld ?_; try simp only [Act.put, List.setIfInBounds_toArray, List.set_cons_zero, List.set_cons_succ])
        (refine wpAnyH_take (i := 11) (v := .pointer (some ⟨P, 6, none⟩)) rfl (by kernel_rfl) (by kernel_rfl) (by kernel_rfl) (fun _ _ _ h => h) (Or.inl ⟨by kernel_rfl, fun w9 hSw => by simp [go_sem]⟩) hHeld ?_; try simp only [Act.put, List.setIfInBounds_toArray, List.set_cons_zero, List.set_cons_succ])
        (refine wpAnyH_take (i := 12) (v := .int .i64 h3) rfl (by kernel_rfl) (by kernel_rfl) (by kernel_rfl) (fun _ _ _ h => h) (Or.inl ⟨by kernel_rfl, fun w9 hSw => by have hc9 := hSw.c6; have hl9 := hSw.lt; simp [go_sem, hc9, hl9]⟩) hHeld ?_; try simp only [Act.put, List.setIfInBounds_toArray, List.set_cons_zero, List.set_cons_succ])
        (refine wpAnyH_ready (rs := [13]) (by kernel_rfl) (by simp) ?_; refine AllReadyH.cons rfl (fun K hK => ?_) AllReadyH.nil)
        go_simp
        go_at_call 16
        refine (gpop_f _ _ _ _ (by omega) (by omega) (by omega)).mono ?_
        rw [pop_is hC hB]
        rintro e w' ⟨ap, kp, rfl, hfp, xp, rfl, hCp⟩
        refine hK.out _ _ (hHeld.mr xp.h) (fun hHeld => ?_)
        clear hK K
        try simp only [Act.put, List.setIfInBounds_toArray, List.set_cons_zero, List.set_cons_succ]
        (refine wpAnyH_ready (rs := [14]) (by kernel_rfl) (by simp) ?_; refine AllReadyH.cons rfl (fun K hK => ?_) AllReadyH.nil)
        go_simp
        go_at_call 24
        refine (tstart_f _ hCp rfl).mono ?_
        rw [hT2]
        rintro e w' ⟨cs, ks, rfl, hfs, xs, rfl, hTs⟩
        refine hK.out _ _ (hHeld.mr xs.h) (fun hHeld => ?_)
        clear hK K
        try simp only [Act.put, List.setIfInBounds_toArray, List.set_cons_zero, List.set_cons_succ]
        (refine wpAnyH_take (i := 15) (v := .pointer (some ⟨P, 0, none⟩)) rfl (by kernel_rfl) (by kernel_rfl) (by kernel_rfl) (fun _ _ _ h => h) (Or.inl ⟨by kernel_rfl, fun w9 hSw => by simp [go_sem]⟩) hHeld ?_; try simp only [Act.put, List.setIfInBounds_toArray, List.set_cons_zero, List.set_cons_succ])
        (refine wpAnyH_take (i := 16) (v := .pointer (some ⟨P, 43, none⟩)) rfl (by kernel_rfl) (by kernel_rfl) (by kernel_rfl) (fun _ _ _ h => h) (Or.inl ⟨by kernel_rfl, fun w9 hSw => by simp [go_sem]⟩) hHeld ?_; try simp only [Act.put, List.setIfInBounds_toArray, List.set_cons_zero, List.set_cons_succ])
        (refine wpAnyH_ready (rs := [17]) (by kernel_rfl) (by simp) ?_; refine AllReadyH.cons rfl (fun K hK => ?_) AllReadyH.nil)
        have mZ := ((Mr.refl Z).drew.trans xp.h).trans xs.h
        have pW := pG.mr mZ
        have hcs : ∀ b o, cs = some ⟨b, o, none⟩ → Z.heap.size ≤ b := fun b o e => hfp b o (hfs b o e)
        have hyf2 : T2.code ≠ [] → ∀ b o, cs = some ⟨b, o, none⟩ → b ≠ P := fun _ b o e => by have := hcs b o e; have := pG.row.lt; omega
        have kC : Ko P xs.u (xs.u.setCells P 43 (TV cs ks T2).toList) := (Ko.refl P xs.u).cells 43 _
        have rC : Row (xs.u.setCells P 43 (TV cs ks T2).toList) P 42 (PV { r2 with z := ⟨cs, ks, T2⟩ }) := by rw [← PV_setZ pW.rg ⟨cs, ks, T2⟩ hTs.2.len]; exact Row.cells pW.row 43 _
        have fC : Far { r2 with z := ⟨cs, ks, T2⟩ } := fun g e => by
          have e : r2.al = some ⟨g, 0, none⟩ := e
          have q := pG.far g e
          exact ⟨q.1, q.2.1, q.2.2.1, fun _ b o e' => by have := hcs b o e'; have := (pG.own_at e).2; omega⟩
        have pC := pW.parts kC { r2 with z := ⟨cs, ks, T2⟩ } rC (kC.wl pW.mem pW.memf) pW.memf rfl rfl rfl (kC.tis pW.y pW.yf) pW.yf (kC.tis hTs hyf2) hyf2 fC
        have mC : Mr w0 (xs.u.setCells P 43 (TV cs ks T2).toList) := mr_cells (mG.trans mZ) hP _ _
        have hV2 : (TV cs ks T2).size = 36 := TV_size hTs.2.len
        rw [if_pos (by rfl)]
        refine wp_store_mid 27 _ _ rfl P 43 (TV cs ks T2) rfl rfl (by rw [hV2]; exact pW.there 43 (by omega)) (sizeT hTs.2.len) (TV_one cs ks T2) ?_
        have lhC : Lh (xs.u.setCells P 43 (TV cs ks T2).toList) P B C h3 := by have e := pC.lh; rw [← hrb, ← hrc, ← hrh3]; exact e
        refine hK.out _ _ lhC (fun hHeld => ?_)
        clear hK K
        try simp only [Act.put, List.setIfInBounds_toArray, List.set_cons_zero, List.set_cons_succ]
        refine wpAnyH_done (by kernel_rfl) ?_ _
        go_wp2_with fail
        exact bodyPost_end (v := .tuple #[]) (by simp [results, Try.results21, go_sem]) rfl ⟨rfl, mC, _, pC, hend cs ks T2 hT2.symm⟩
end Rg
end Go.Proofs.Ytnbejkhcifeeiaa
