/- A step of who lays (layer 14's law RingTurns). -/
import Derived.Test.YtnbejkhcifeeiaaRingC4
namespace Go.Proofs.Ytnbejkhcifeeiaa
open Go.ChangeShapes Go.WideShapes Go.ChangeAt Go.RowKit
set_option linter.unusedVariables false
set_option linter.unusedSimpArgs false
attribute [local go_sem] Ext.cell Ext.froz Ext.lt Ext.lt1 Ext.lt2 Ext.lt3 Ext.all drew_heap setCell_size Ext.set_size
attribute [-go_sem] loadCells
attribute [-go_sem] Instr.build
namespace Rg
open Wl Ce Tk Rw
/-- What a step of who lays turns. -/
def Lay (s s' : Pl) (B C nn : Nat) : Prop := s'.b = s.b ∧ s'.c = s.c ∧ s'.ok = true ∧ s'.h = s.h ∧ s'.z = s.z ∧ s'.pp = s.pp ∧ s'.M = Tk.stepM s.y.t s.M ∧
  (((Tk.stepT s.y.t s.M).done = false ∧ s'.y.t = Tk.stepT s.y.t s.M ∧ s'.ly = s.ly + 1 ∧ s'.L = s.L ∧ s'.d = s.d ∧ s'.nx = s.nx) ∨
   ((Tk.stepT s.y.t s.M).done = true ∧ (Tk.stepT s.y.t s.M).ans = 1 ∧ (∃ x : We, x.l = wn nn ∧ s'.L = s.L ++ [x]) ∧ s'.d = s.d ∧ s'.nx = nn + 1 ∧ s'.ly = 0 ∧ s'.y.t = Tk.start (pushL B C ((s.L.length + 1 : Nat) : Int) (wn ((nn + 1 : Nat) : Int)))) ∨
   ((Tk.stepT s.y.t s.M).done = true ∧ (Tk.stepT s.y.t s.M).ans ≠ 1 ∧ s'.L = s.L ∧ s'.d = s.d + 1 ∧ s'.nx = nn + 1 ∧ s'.ly = 0 ∧ s'.y.t = Tk.start (pushL B C (s.L.length : Int) (wn ((nn + 1 : Nat) : Int)))))
/-- What has turned behind a push that is done. -/
def Mid (s q : Pl) (M1 : List Int) (T1 : T) (nn : Nat) : Prop := q.b = s.b ∧ q.c = s.c ∧ q.ok = true ∧ q.h = s.h ∧ q.z = s.z ∧ q.pp = s.pp ∧ q.M = M1 ∧ q.nx = nn ∧
  ((T1.ans = 1 ∧ (∃ x : We, x.l = wn nn ∧ q.L = s.L ++ [x]) ∧ q.d = s.d) ∨ (T1.ans ≠ 1 ∧ q.L = s.L ∧ q.d = s.d + 1))
theorem z36_size3 : (#[Value.slice none 0 0, Value.int IntKind.i64 0, Value.int IntKind.u64 0, Value.int IntKind.u64 0, Value.int IntKind.u64 0, Value.int IntKind.u64 0, Value.int IntKind.u64 0, Value.int IntKind.u64 0, Value.int IntKind.u64 0, Value.int IntKind.u64 0, Value.int IntKind.u64 0, Value.int IntKind.u64 0, Value.int IntKind.u64 0, Value.int IntKind.u64 0, Value.int IntKind.u64 0, Value.int IntKind.u64 0, Value.int IntKind.u64 0, Value.int IntKind.u64 0, Value.int IntKind.u64 0, Value.int IntKind.u64 0, Value.int IntKind.u64 0, Value.int IntKind.u64 0, Value.int IntKind.u64 0, Value.int IntKind.u64 0, Value.int IntKind.u64 0, Value.int IntKind.u64 0, Value.int IntKind.u64 0, Value.int IntKind.u64 0, Value.int IntKind.u64 0, Value.int IntKind.u64 0, Value.int IntKind.u64 0, Value.int IntKind.u64 0, Value.int IntKind.u64 0, Value.int IntKind.u64 0, Value.bool false, Value.int IntKind.i64 0] : Array Value).size = 36 := rfl
set_option maxRecDepth 100000 in
set_option maxHeartbeats 4000000 in
theorem layer_c {s : Pl} {P B C nn : Nat} (hC : 1 ≤ C ∧ C ≤ 8) (hB : B ≤ 100) (w0 w : World) (m0 : Mr w0 w) (hP : w0.heap.size ≤ P) (h : Pin w P s) (eb : s.b = B) (ec : s.c = C) (en : s.nx = nn) (hn : nn ≤ 1000) (hok : s.ok = true) (hly : 0 ≤ s.ly ∧ s.ly + 1 ≤ 8) (hM0 : 0 < s.M.length) (hL : s.L.length ≤ 1000) (hsd : 0 ≤ s.d ∧ s.d ≤ 1000) (hsh : 0 ≤ s.h ∧ s.h ≤ s.L.length ∧ (s.L.length : Int) - s.h ≤ C) :
    Calls Try.prog 20 #[.pointer (some ⟨P, 0, none⟩)] w fun e w' => e = .returned (.tuple #[]) ∧ Mr w0 w' ∧ ∃ s', Pin w' P s' ∧ Lay s s' B C nn := by
  have hPw := h.row.lt
  obtain ⟨T1, hT1⟩ : ∃ T1, Tk.stepT s.y.t s.M = T1 := ⟨_, rfl⟩
  obtain ⟨M1, hM1⟩ : ∃ M1, Tk.stepM s.y.t s.M = M1 := ⟨_, rfl⟩
  obtain ⟨n, hn1⟩ : ∃ n, s.M.length = n := ⟨_, rfl⟩
  obtain ⟨n', hn2⟩ : ∃ n', (cut s.M).length = n' := ⟨_, rfl⟩
  have hM1l : M1.length = n' := by rw [← hM1, stepM_len, hn2]
  have hn0 : 0 < n' := by rw [← hn2]; unfold cut; rw [List.length_take]; omega
  obtain ⟨ca1, hca1⟩ : ∃ ca1, ta s.y.t s.y.ca = ca1 := ⟨_, rfl⟩
  obtain ⟨cc1, hcc1⟩ : ∃ cc1, tc s.y.t s.y.cc = cc1 := ⟨_, rfl⟩
  obtain ⟨V, hV⟩ : ∃ V, TV s.y.ca s.y.cc s.y.t = V := ⟨_, rfl⟩
  have hstep : ∀ W : World, Pin W P s → Calls Try.prog 31 #[.agg V, .slice s.am n s.km] W fun e w' => ∃ a' c', e = .returned (.tuple #[.agg (TV ca1 cc1 T1), .slice a' n' c']) ∧ (∀ b o, a' = some ⟨b, o, none⟩ → W.heap.size ≤ b) ∧ ∃ x : Ext W, w' = x.u ∧ Wl.Is x.u a' c' M1 := fun W hW => by
    rw [← hV, ← hT1, ← hM1, ← hca1, ← hcc1, ← hn2]
    exact tstep_v W hW.y hW.mem hn1
  have hTis : ∀ W : World, Pin W P s → Tis W ca1 cc1 T1 := fun W hW => by
    have := Tis.step hW.y hW.mem.bd
    rw [← hT1, ← hca1, ← hcc1]; exact this
  have hSw0 := h
  have hPV0 : (PV s)[0]? = some (.slice s.am n s.km) := by rw [← hn1]; exact PV_0 s
  have hTt := (hTis w h).2
  have hsz1 := sizeT (ca := ca1) (cc := cc1) hTt.len
  have hV1 : (TV ca1 cc1 T1).size = 36 := TV_size hTt.len
  have hVo1 := TV_one ca1 cc1 T1
  go_enter Try.func20, Try.ntmps20
  go_upto_region 0 with (fail)
  go_cut [2, 3] (fun u f wx => ∃ (U : Nat) (a' : Option Addr) (c' : Nat), u = .pointer (some ⟨U, 0, none⟩) ∧ f = .slice a' n' c' ∧ w.heap.size ≤ U ∧ Row wx U 27 (TV ca1 cc1 T1) ∧ Mr w wx ∧ Wl.Is wx a' c' M1 ∧ ∀ b o, a' = some ⟨b, o, none⟩ → w.heap.size ≤ b)
  case first =>
    refine wp_region_held_drew (S := fun w' => Pin w' P s) (by kernel_rfl) (h.mr (Mr.refl _).drew) (fun hHeld => ?_)
    (refine wpAnyH_take (i := 0) (v := .pointer (some ⟨P, 0, none⟩)) rfl (by kernel_rfl) (by kernel_rfl) (by kernel_rfl) (fun _ _ _ h => h) (Or.inl ⟨by rfl, fun w9 hSw => by simp [go_sem]⟩) hHeld ?_; try simp only [Act.put, List.setIfInBounds_toArray, List.set_cons_zero, List.set_cons_succ])
    (refine wpAnyH_take (i := 1) (v := .pointer (some ⟨P, 0, none⟩)) rfl (by kernel_rfl) (by kernel_rfl) (by kernel_rfl) (fun _ _ _ h => h) (Or.inl ⟨by rfl, fun w9 hSw => by simp [go_sem]⟩) hHeld ?_; try simp only [Act.put, List.setIfInBounds_toArray, List.set_cons_zero, List.set_cons_succ])
    (refine wpAnyH_take (i := 2) (v := .pointer (some ⟨P, 7, none⟩)) rfl (by kernel_rfl) (by kernel_rfl) (by kernel_rfl) (fun _ _ _ h => h) (Or.inl ⟨by rfl, fun w9 hSw => by simp [go_sem]⟩) hHeld ?_; try simp only [Act.put, List.setIfInBounds_toArray, List.set_cons_zero, List.set_cons_succ])
    (refine wpAnyH_take (i := 3) (v := .agg V) rfl (by kernel_rfl) (by kernel_rfl) (by kernel_rfl) (fun _ _ _ h => h) (by rw [← hV]; exact yieldsIf_load_mid (by rfl) _ _ rfl P 7 rfl (TV s.y.ca s.y.cc s.y.t).toList _ (fun w9 hSw => hSw.range_y) Try.underlying27 rfl (info_T (hSw0.rg.1))) hHeld ?_; try simp only [Act.put, List.setIfInBounds_toArray, List.set_cons_zero, List.set_cons_succ])
    (refine wpAnyH_take (i := 4) (v := .pointer (some ⟨P, 0, none⟩)) rfl (by kernel_rfl) (by kernel_rfl) (by kernel_rfl) (fun _ _ _ h => h) (Or.inl ⟨by rfl, fun w9 hSw => by simp [go_sem]⟩) hHeld ?_; try simp only [Act.put, List.setIfInBounds_toArray, List.set_cons_zero, List.set_cons_succ])
    (refine wpAnyH_take (i := 5) (v := .pointer (some ⟨P, 0, none⟩)) rfl (by kernel_rfl) (by kernel_rfl) (by kernel_rfl) (fun _ _ _ h => h) (Or.inl ⟨by rfl, fun w9 hSw => by simp [go_sem]⟩) hHeld ?_; try simp only [Act.put, List.setIfInBounds_toArray, List.set_cons_zero, List.set_cons_succ])
    (refine wpAnyH_take (i := 6) (v := .pointer (some ⟨P, 0, none⟩)) rfl (by kernel_rfl) (by kernel_rfl) (by kernel_rfl) (fun _ _ _ h => h) (Or.inl ⟨by rfl, fun w9 hSw => by simp [go_sem]⟩) hHeld ?_; try simp only [Act.put, List.setIfInBounds_toArray, List.set_cons_zero, List.set_cons_succ])
    (refine wpAnyH_take (i := 7) (v := .slice s.am n s.km) rfl (by kernel_rfl) (by kernel_rfl) (by kernel_rfl) (fun _ _ _ h => h) (Or.inl ⟨by rfl, fun w9 hSw => by have hc9 := (hSw.row.cell 0).trans hPV0; have hl9 := hSw.row.lt; simp [go_sem, hc9, hl9]⟩) hHeld ?_; try simp only [Act.put, List.setIfInBounds_toArray, List.set_cons_zero, List.set_cons_succ])
    refine wpAnyH_ready (rs := [8, 12]) (by kernel_rfl) (by simp) ?_
    refine AllReadyH.cons rfl (fun K hK => ?_) (AllReadyH.cons rfl (fun K hK => ?_) AllReadyH.nil)
    · go_simp
      go_at_call 31
      refine (hstep _ hHeld).mono ?_
      rintro e w' ⟨a1, c1, rfl, hf1, x, rfl, hI1⟩
      have hX := hHeld.mr x.h
      refine hK.out _ _ hX (fun hHeld => ?_)
      clear hK K
      try simp only [Act.put, List.setIfInBounds_toArray, List.set_cons_zero, List.set_cons_succ]
      (refine wpAnyH_take (i := 9) (v := .tuple #[.agg (TV ca1 cc1 T1), .slice a1 n' c1]) rfl (by kernel_rfl) (by kernel_rfl) (by kernel_rfl) (fun _ _ _ h => h) (Or.inl ⟨by rfl, fun w9 hSw => by simp [go_sem]⟩) hHeld ?_; try simp only [Act.put, List.setIfInBounds_toArray, List.set_cons_zero, List.set_cons_succ])
      (refine wpAnyH_take (i := 10) (v := .agg (TV ca1 cc1 T1)) rfl (by kernel_rfl) (by kernel_rfl) (by kernel_rfl) (fun _ _ _ h => h) (Or.inl ⟨by rfl, fun w9 hSw => by simp [go_sem]⟩) hHeld ?_; try simp only [Act.put, List.setIfInBounds_toArray, List.set_cons_zero, List.set_cons_succ])
      (refine wpAnyH_take (i := 11) (v := .slice a1 n' c1) rfl (by kernel_rfl) (by kernel_rfl) (by kernel_rfl) (fun _ _ _ h => h) (Or.inl ⟨by rfl, fun w9 hSw => by simp [go_sem]⟩) hHeld ?_; try simp only [Act.put, List.setIfInBounds_toArray, List.set_cons_zero, List.set_cons_succ])
      (refine wpAnyH_ready (rs := [12]) (by kernel_rfl) (by simp) ?_; refine AllReadyH.cons rfl (fun K hK => ?_) AllReadyH.nil)
      go_simp
      have hG := Row.new x.u 27 #[Value.slice none 0 0, Value.int IntKind.i64 0, Value.int IntKind.u64 0, Value.int IntKind.u64 0, Value.int IntKind.u64 0, Value.int IntKind.u64 0, Value.int IntKind.u64 0, Value.int IntKind.u64 0, Value.int IntKind.u64 0, Value.int IntKind.u64 0, Value.int IntKind.u64 0, Value.int IntKind.u64 0, Value.int IntKind.u64 0, Value.int IntKind.u64 0, Value.int IntKind.u64 0, Value.int IntKind.u64 0, Value.int IntKind.u64 0, Value.int IntKind.u64 0, Value.int IntKind.u64 0, Value.int IntKind.u64 0, Value.int IntKind.u64 0, Value.int IntKind.u64 0, Value.int IntKind.u64 0, Value.int IntKind.u64 0, Value.int IntKind.u64 0, Value.int IntKind.u64 0, Value.int IntKind.u64 0, Value.int IntKind.u64 0, Value.int IntKind.u64 0, Value.int IntKind.u64 0, Value.int IntKind.u64 0, Value.int IntKind.u64 0, Value.int IntKind.u64 0, Value.int IntKind.u64 0, Value.bool false, Value.int IntKind.i64 0]
      have mG : Mr x.u ((x.u.alloc (.cells #[Value.slice none 0 0, Value.int IntKind.i64 0, Value.int IntKind.u64 0, Value.int IntKind.u64 0, Value.int IntKind.u64 0, Value.int IntKind.u64 0, Value.int IntKind.u64 0, Value.int IntKind.u64 0, Value.int IntKind.u64 0, Value.int IntKind.u64 0, Value.int IntKind.u64 0, Value.int IntKind.u64 0, Value.int IntKind.u64 0, Value.int IntKind.u64 0, Value.int IntKind.u64 0, Value.int IntKind.u64 0, Value.int IntKind.u64 0, Value.int IntKind.u64 0, Value.int IntKind.u64 0, Value.int IntKind.u64 0, Value.int IntKind.u64 0, Value.int IntKind.u64 0, Value.int IntKind.u64 0, Value.int IntKind.u64 0, Value.int IntKind.u64 0, Value.int IntKind.u64 0, Value.int IntKind.u64 0, Value.int IntKind.u64 0, Value.int IntKind.u64 0, Value.int IntKind.u64 0, Value.int IntKind.u64 0, Value.int IntKind.u64 0, Value.int IntKind.u64 0, Value.int IntKind.u64 0, Value.bool false, Value.int IntKind.i64 0] 27)).setRow x.u.heap.size (TV ca1 cc1 T1)) := mr_row ((Mr.refl x.u).alloc _) (Nat.le_refl _) _
      refine hK.out _ _ (hX.mr ((Mr.refl _).alloc _)) (fun hHeld => ?_)
      clear hK K
      try simp only [Act.put, List.setIfInBounds_toArray, List.set_cons_zero, List.set_cons_succ]
      (refine wpAnyH_ready (rs := [13]) (by kernel_rfl) (by simp) ?_; refine AllReadyH.cons rfl (fun K hK => ?_) AllReadyH.nil)
      rw [if_pos (by rfl)]
      refine wp_store_row _ _ _ rfl x.u.heap.size (TV ca1 cc1 T1) rfl rfl 27 #[Value.slice none 0 0, Value.int IntKind.i64 0, Value.int IntKind.u64 0, Value.int IntKind.u64 0, Value.int IntKind.u64 0, Value.int IntKind.u64 0, Value.int IntKind.u64 0, Value.int IntKind.u64 0, Value.int IntKind.u64 0, Value.int IntKind.u64 0, Value.int IntKind.u64 0, Value.int IntKind.u64 0, Value.int IntKind.u64 0, Value.int IntKind.u64 0, Value.int IntKind.u64 0, Value.int IntKind.u64 0, Value.int IntKind.u64 0, Value.int IntKind.u64 0, Value.int IntKind.u64 0, Value.int IntKind.u64 0, Value.int IntKind.u64 0, Value.int IntKind.u64 0, Value.int IntKind.u64 0, Value.int IntKind.u64 0, Value.int IntKind.u64 0, Value.int IntKind.u64 0, Value.int IntKind.u64 0, Value.int IntKind.u64 0, Value.int IntKind.u64 0, Value.int IntKind.u64 0, Value.int IntKind.u64 0, Value.int IntKind.u64 0, Value.int IntKind.u64 0, Value.int IntKind.u64 0, Value.bool false, Value.int IntKind.i64 0] hG hsz1 (z36_size3.trans hV1.symm) hVo1 ?_
      refine hK.out _ _ (hX.mr mG) (fun hHeld => ?_)
      clear hK K
      try simp only [Act.put, List.setIfInBounds_toArray, List.set_cons_zero, List.set_cons_succ]
      (refine wpAnyH_ready (rs := [14]) (by kernel_rfl) (by simp) ?_; refine AllReadyH.cons rfl (fun K hK => ?_) AllReadyH.nil)
      go_simp
      refine hK.out _ _ hHeld (fun hHeld => ?_)
      clear hK K
      refine wpAnyH_done (by kernel_rfl) ?_ _
      go_wp2_with fail
      go_meet
      case rel => exact ⟨x.u.heap.size, a1, c1, rfl, rfl, x.h.below.size, Row.row hG _, ((Mr.refl w).drew.trans x.h).trans mG, hI1.mr mG, hf1⟩
    · go_simp
      have hHd := hHeld
      have hG := Row.new w.drew 27 #[Value.slice none 0 0, Value.int IntKind.i64 0, Value.int IntKind.u64 0, Value.int IntKind.u64 0, Value.int IntKind.u64 0, Value.int IntKind.u64 0, Value.int IntKind.u64 0, Value.int IntKind.u64 0, Value.int IntKind.u64 0, Value.int IntKind.u64 0, Value.int IntKind.u64 0, Value.int IntKind.u64 0, Value.int IntKind.u64 0, Value.int IntKind.u64 0, Value.int IntKind.u64 0, Value.int IntKind.u64 0, Value.int IntKind.u64 0, Value.int IntKind.u64 0, Value.int IntKind.u64 0, Value.int IntKind.u64 0, Value.int IntKind.u64 0, Value.int IntKind.u64 0, Value.int IntKind.u64 0, Value.int IntKind.u64 0, Value.int IntKind.u64 0, Value.int IntKind.u64 0, Value.int IntKind.u64 0, Value.int IntKind.u64 0, Value.int IntKind.u64 0, Value.int IntKind.u64 0, Value.int IntKind.u64 0, Value.int IntKind.u64 0, Value.int IntKind.u64 0, Value.int IntKind.u64 0, Value.bool false, Value.int IntKind.i64 0]
      have hX := hHeld.mr ((Mr.refl _).alloc (.cells #[Value.slice none 0 0, Value.int IntKind.i64 0, Value.int IntKind.u64 0, Value.int IntKind.u64 0, Value.int IntKind.u64 0, Value.int IntKind.u64 0, Value.int IntKind.u64 0, Value.int IntKind.u64 0, Value.int IntKind.u64 0, Value.int IntKind.u64 0, Value.int IntKind.u64 0, Value.int IntKind.u64 0, Value.int IntKind.u64 0, Value.int IntKind.u64 0, Value.int IntKind.u64 0, Value.int IntKind.u64 0, Value.int IntKind.u64 0, Value.int IntKind.u64 0, Value.int IntKind.u64 0, Value.int IntKind.u64 0, Value.int IntKind.u64 0, Value.int IntKind.u64 0, Value.int IntKind.u64 0, Value.int IntKind.u64 0, Value.int IntKind.u64 0, Value.int IntKind.u64 0, Value.int IntKind.u64 0, Value.int IntKind.u64 0, Value.int IntKind.u64 0, Value.int IntKind.u64 0, Value.int IntKind.u64 0, Value.int IntKind.u64 0, Value.int IntKind.u64 0, Value.int IntKind.u64 0, Value.bool false, Value.int IntKind.i64 0] 27))
      refine hK.out _ _ hX (fun hHeld => ?_)
      clear hK K
      try simp only [Act.put, List.setIfInBounds_toArray, List.set_cons_zero, List.set_cons_succ]
      (refine wpAnyH_ready (rs := [8]) (by kernel_rfl) (by simp) ?_; refine AllReadyH.cons rfl (fun K hK => ?_) AllReadyH.nil)
      go_simp
      go_at_call 31
      refine (hstep _ hHeld).mono ?_
      rintro e w' ⟨a1, c1, rfl, hf1, x, rfl, hI1⟩
      replace hX := hHeld.mr x.h
      refine hK.out _ _ hX (fun hHeld => ?_)
      clear hK K
      replace hG := hG.mr x.h
      have mx : Mr w x.u := ((Mr.refl w).drew.alloc _).trans x.h
      have mG : Mr w (x.u.setRow w.drew.heap.size (TV ca1 cc1 T1)) := mr_row mx (Nat.le_refl _) _
      try simp only [Act.put, List.setIfInBounds_toArray, List.set_cons_zero, List.set_cons_succ]
      (refine wpAnyH_take (i := 9) (v := .tuple #[.agg (TV ca1 cc1 T1), .slice a1 n' c1]) rfl (by kernel_rfl) (by kernel_rfl) (by kernel_rfl) (fun _ _ _ h => h) (Or.inl ⟨by rfl, fun w9 hSw => by simp [go_sem]⟩) hHeld ?_; try simp only [Act.put, List.setIfInBounds_toArray, List.set_cons_zero, List.set_cons_succ])
      (refine wpAnyH_take (i := 10) (v := .agg (TV ca1 cc1 T1)) rfl (by kernel_rfl) (by kernel_rfl) (by kernel_rfl) (fun _ _ _ h => h) (Or.inl ⟨by rfl, fun w9 hSw => by simp [go_sem]⟩) hHeld ?_; try simp only [Act.put, List.setIfInBounds_toArray, List.set_cons_zero, List.set_cons_succ])
      (refine wpAnyH_take (i := 11) (v := .slice a1 n' c1) rfl (by kernel_rfl) (by kernel_rfl) (by kernel_rfl) (fun _ _ _ h => h) (Or.inl ⟨by rfl, fun w9 hSw => by simp [go_sem]⟩) hHeld ?_; try simp only [Act.put, List.setIfInBounds_toArray, List.set_cons_zero, List.set_cons_succ])
      (refine wpAnyH_ready (rs := [13]) (by kernel_rfl) (by simp) ?_; refine AllReadyH.cons rfl (fun K hK => ?_) AllReadyH.nil)
      rw [if_pos (by rfl)]
      refine wp_store_row _ _ _ rfl w.drew.heap.size (TV ca1 cc1 T1) rfl rfl 27 #[Value.slice none 0 0, Value.int IntKind.i64 0, Value.int IntKind.u64 0, Value.int IntKind.u64 0, Value.int IntKind.u64 0, Value.int IntKind.u64 0, Value.int IntKind.u64 0, Value.int IntKind.u64 0, Value.int IntKind.u64 0, Value.int IntKind.u64 0, Value.int IntKind.u64 0, Value.int IntKind.u64 0, Value.int IntKind.u64 0, Value.int IntKind.u64 0, Value.int IntKind.u64 0, Value.int IntKind.u64 0, Value.int IntKind.u64 0, Value.int IntKind.u64 0, Value.int IntKind.u64 0, Value.int IntKind.u64 0, Value.int IntKind.u64 0, Value.int IntKind.u64 0, Value.int IntKind.u64 0, Value.int IntKind.u64 0, Value.int IntKind.u64 0, Value.int IntKind.u64 0, Value.int IntKind.u64 0, Value.int IntKind.u64 0, Value.int IntKind.u64 0, Value.int IntKind.u64 0, Value.int IntKind.u64 0, Value.int IntKind.u64 0, Value.int IntKind.u64 0, Value.int IntKind.u64 0, Value.bool false, Value.int IntKind.i64 0] hG hsz1 (z36_size3.trans hV1.symm) hVo1 ?_
      refine hK.out _ _ (h.mr mG) (fun hHeld => ?_)
      clear hK K
      try simp only [Act.put, List.setIfInBounds_toArray, List.set_cons_zero, List.set_cons_succ]
      (refine wpAnyH_ready (rs := [14]) (by kernel_rfl) (by simp) ?_; refine AllReadyH.cons rfl (fun K hK => ?_) AllReadyH.nil)
      go_simp
      refine hK.out _ _ hHeld (fun hHeld => ?_)
      clear hK K
      refine wpAnyH_done (by kernel_rfl) ?_ _
      go_wp2_with fail
      go_meet
      case rel => exact ⟨w.drew.heap.size, a1, c1, rfl, rfl, Nat.le_refl _, Row.row hG _, mG, wl_row hI1 (fun b o e => by have := hf1 b o e; simp at this; show b ≠ w.heap.size; omega) _, fun b o e => by have := hf1 b o e; simp at this; omega⟩
  case rest =>
    obtain ⟨U, a1, c1, rfl, rfl, hU, hRu, m1, hI1, hf1⟩ := hcut
    have hX := h.mr m1
    have hT2 := (hTis w h).mr m1
    have hyf := h.stepy s.M
    rw [hT1, hca1] at hyf
    have hUP : U ≠ P := by omega
    have hPU : ¬ P = U := fun e => hUP e.symm
    have hl1 := row_load (P := Try.prog) hRu hV1
    have mM := m0.trans m1
    have hFar : Far { s with y := ⟨ca1, cc1, T1⟩, am := a1, km := c1, M := M1, ly := s.ly + 1, ok := true } := fun g e => by
      have e : s.al = some ⟨g, 0, none⟩ := e
      have q := h.far g e
      have q2 := h.fary s.M e
      rw [hT1, hca1] at q2
      exact ⟨fun b o e' => by have := hf1 b o e'; have := (h.own_at e).2; omega, q.2.1, q2, q.2.2.2⟩
    clear hstep hTis h m0 m1 hPV0
    have rg1 : ({ s with y := ⟨ca1, cc1, T1⟩ } : Pl).rg := ⟨hTt.len, hX.rg.2⟩
    have kA : Ko P wc (wc.setCells P 7 (TV ca1 cc1 T1).toList) := (Ko.refl P wc).cells 7 _
    have rA : Row (wc.setCells P 7 (TV ca1 cc1 T1).toList) P 42 (PV { s with y := ⟨ca1, cc1, T1⟩ }) := by rw [← PV_setY hX.rg ⟨ca1, cc1, T1⟩ hTt.len]; exact Row.cells hX.row 7 _
    have rU := kA.row hRu hUP
    have mA : Mr w0 (wc.setCells P 7 (TV ca1 cc1 T1).toList) := mr_cells mM hP _ _
    have iA := kA.wl hI1 (fun b o e => by have := hf1 b o e; omega)
    have tA := kA.tis hT2 hyf
    have zA := kA.tis hX.z hX.zf
    have af : ∀ b o, a1 = some ⟨b, o, none⟩ → b ≠ P := fun b o e => by have := hf1 b o e; omega
    go_upto_region 2 with (first | (refine wpList_store_mid rfl 27 _ _ rfl P 7 (TV ca1 cc1 T1) rfl rfl (by rw [hV1]; exact hX.there 7 (by omega)) hsz1 hVo1 ?_))
    generalize wc.setCells P 7 (TV ca1 cc1 T1).toList = X at *
    have c0 := (rA.cell 0).trans (PV_0 _)
    have c79 : X.cell? ⟨P, 79, none⟩ = some (.int .i64 s.ly) := (rA.cell 79).trans (PV_79 rg1)
    have c81 : X.cell? ⟨P, 81, none⟩ = some (.bool true) := by rw [← hok]; exact (rA.cell 81).trans (PV_81 rg1)
    have f0 := rA.froz 0
    have f79 := rA.froz 79
    have f81 := rA.froz 81
    have lX := rA.lt
    have u34 := (rU.cell 34).trans (TV_34 hTt.len)
    have u35 := (rU.cell 35).trans (TV_35 hTt.len)
    have lU := rU.lt
    have hly2 := hly.2
    clear hl1 hsz1 hVo1
    have kF : Ko P wc (((X.setCell ⟨P, 0, none⟩ (.slice a1 n' c1)).setCell ⟨P, 79, none⟩ (.int .i64 (s.ly + 1))).setCell ⟨P, 81, none⟩ (.bool true)) := ((kA.set 0 _).set 79 _).set 81 _
    have kG : Ko P X (((X.setCell ⟨P, 0, none⟩ (.slice a1 n' c1)).setCell ⟨P, 79, none⟩ (.int .i64 (s.ly + 1))).setCell ⟨P, 81, none⟩ (.bool true)) := (((Ko.refl P X).set 0 _).set 79 _).set 81 _
    have mF : Mr w0 (((X.setCell ⟨P, 0, none⟩ (.slice a1 n' c1)).setCell ⟨P, 79, none⟩ (.int .i64 (s.ly + 1))).setCell ⟨P, 81, none⟩ (.bool true)) := ((mA.setCell hP _).setCell hP _).setCell hP _
    have rF : Row (((X.setCell ⟨P, 0, none⟩ (.slice a1 n' c1)).setCell ⟨P, 79, none⟩ (.int .i64 (s.ly + 1))).setCell ⟨P, 81, none⟩ (.bool true)) P 42 (PV { s with y := ⟨ca1, cc1, T1⟩, am := a1, km := c1, M := M1, ly := s.ly + 1, ok := true }) := by
      have e0 := PV_set0 { s with y := ⟨ca1, cc1, T1⟩ } a1 M1 c1 n' hM1l
      have e1 := PV_set79 (s := { s with y := ⟨ca1, cc1, T1⟩, am := a1, km := c1, M := M1 }) rg1 (s.ly + 1)
      have e2 := PV_set81 (s := { s with y := ⟨ca1, cc1, T1⟩, am := a1, km := c1, M := M1, ly := s.ly + 1 }) rg1 true
      rw [← e2, ← e1, ← e0]
      exact ((rA.set 0 _).set 79 _).set 81 _
    have pF : Pin (((X.setCell ⟨P, 0, none⟩ (.slice a1 n' c1)).setCell ⟨P, 79, none⟩ (.int .i64 (s.ly + 1))).setCell ⟨P, 81, none⟩ (.bool true)) P { s with y := ⟨ca1, cc1, T1⟩, am := a1, km := c1, M := M1, ly := s.ly + 1, ok := true } :=
      hX.parts kF _ rF (kG.wl iA af) af rfl rfl rfl (kG.tis tA hyf) hyf (kG.tis zA hX.zf) hX.zf hFar
    have uF := kG.row rU hUP
    have hLN : T1.done = false → Lay s { s with y := ⟨ca1, cc1, T1⟩, am := a1, km := c1, M := M1, ly := s.ly + 1, ok := true } B C nn := fun hd => ⟨rfl, rfl, rfl, rfl, rfl, rfl, hM1.symm, .inl ⟨by rw [hT1]; exact hd, hT1.symm, rfl, rfl, rfl, rfl⟩⟩
    cases hd : T1.done
    · rw [hd] at u34
      clear u35 kA rA rU mA iA tA zA kF kG rF uF
      go_wp2
      exact bodyPost_ret (v := .tuple #[]) (by simp [results, Try.results20, go_sem]) rfl ⟨rfl, mF, _, pF, hLN hd⟩
    · rw [hd] at u34
      clear kA rA rU mA iA tA zA kF kG rF hLN
      go_upto_region 6 with (fail)
      generalize (((X.setCell ⟨P, 0, none⟩ (.slice a1 n' c1)).setCell ⟨P, 79, none⟩ (.int .i64 (s.ly + 1))).setCell ⟨P, 81, none⟩ (.bool true)) = Y at *
      clear c0 c79 c81 f0 f79 f81 lX u34 u35 lU hly2
      have u35 := (uF.cell 35).trans (TV_35 hTt.len)
      have lU := uF.lt
      obtain ⟨r, hre⟩ : ∃ r : Pl, r = { s with y := ⟨ca1, cc1, T1⟩, am := a1, km := c1, M := M1, ly := s.ly + 1, ok := true } := ⟨_, rfl⟩
      rw [← hre] at pF
      have hPV3 : (PV r)[3]? = some (.int .i64 nn) := by rw [PV_3, hre]; show some (Value.int .i64 s.nx) = _; rw [en]
      obtain ⟨N, hN⟩ : ∃ N, s.L.length = N := ⟨_, rfl⟩
      have hPV4 : (PV r)[4]? = some (.slice r.al N r.kl) := by rw [PV_4, ← hN, hre]
      have hnr : r.nx = nn := by rw [hre]; exact en
      have hM6 : 0 < r.M.length := by rw [hre]; show 0 < M1.length; rw [hM1l]; exact hn0
      have hNr : r.L.length = N := by rw [hre]; exact hN
      replace hre : Hid (r = _) := hre
      by_cases ha : T1.ans = 1
      · rw [ha] at u35
        go_upto_region 7 with (fail)
        go_cut [] (fun wx => ∃ q, Pin wx P q ∧ Mr w0 wx ∧ Mid s q M1 T1 nn)
        case first =>
          have pD := pF.mr (Mr.refl _).drew
          have mD : Mr w0 Y.drew := mF.trans (Mr.refl _).drew
          have c4 : Y.cell? ⟨P, 4, none⟩ = some (.slice r.al N r.kl) := (pF.row.cell 4).trans hPV4
          have lP := pF.row.lt
          refine wp_region_held_drew (S := fun w' => P < w'.heap.size ∧ w'.cell? ⟨P, 3, none⟩ = some (.int .i64 nn)) (by kernel_rfl) ⟨pD.row.lt, (pD.row.cell 3).trans hPV3⟩ (fun hHeld => ?_)
          (refine wpAnyH_take (i := 0) (v := .pointer (some ⟨P, 0, none⟩)) rfl (by kernel_rfl) (by kernel_rfl) (by kernel_rfl) (fun _ _ _ h => h) (Or.inl ⟨by rfl, fun w9 hSw => by simp [go_sem]⟩) hHeld ?_; try simp only [Act.put, List.setIfInBounds_toArray, List.set_cons_zero, List.set_cons_succ])
          (refine wpAnyH_take (i := 1) (v := .pointer (some ⟨P, 0, none⟩)) rfl (by kernel_rfl) (by kernel_rfl) (by kernel_rfl) (fun _ _ _ h => h) (Or.inl ⟨by rfl, fun w9 hSw => by simp [go_sem]⟩) hHeld ?_; try simp only [Act.put, List.setIfInBounds_toArray, List.set_cons_zero, List.set_cons_succ])
          (refine wpAnyH_take (i := 2) (v := .pointer (some ⟨P, 0, none⟩)) rfl (by kernel_rfl) (by kernel_rfl) (by kernel_rfl) (fun _ _ _ h => h) (Or.inl ⟨by rfl, fun w9 hSw => by simp [go_sem]⟩) hHeld ?_; try simp only [Act.put, List.setIfInBounds_toArray, List.set_cons_zero, List.set_cons_succ])
          (refine wpAnyH_take (i := 3) (v := .pointer (some ⟨P, 4, none⟩)) rfl (by kernel_rfl) (by kernel_rfl) (by kernel_rfl) (fun _ _ _ h => h) (Or.inl ⟨by rfl, fun w9 hSw => by simp [go_sem]⟩) hHeld ?_; try simp only [Act.put, List.setIfInBounds_toArray, List.set_cons_zero, List.set_cons_succ])
          (refine wpAnyH_take (i := 5) (v := .pointer (some ⟨P, 0, none⟩)) rfl (by kernel_rfl) (by kernel_rfl) (by kernel_rfl) (fun _ _ _ h => h) (Or.inl ⟨by rfl, fun w9 hSw => by simp [go_sem]⟩) hHeld ?_; try simp only [Act.put, List.setIfInBounds_toArray, List.set_cons_zero, List.set_cons_succ])
          (refine wpAnyH_take (i := 6) (v := .pointer (some ⟨P, 0, none⟩)) rfl (by kernel_rfl) (by kernel_rfl) (by kernel_rfl) (fun _ _ _ h => h) (Or.inl ⟨by rfl, fun w9 hSw => by simp [go_sem]⟩) hHeld ?_; try simp only [Act.put, List.setIfInBounds_toArray, List.set_cons_zero, List.set_cons_succ])
          (refine wpAnyH_take (i := 7) (v := .pointer (some ⟨P, 3, none⟩)) rfl (by kernel_rfl) (by kernel_rfl) (by kernel_rfl) (fun _ _ _ h => h) (Or.inl ⟨by rfl, fun w9 hSw => by simp [go_sem]⟩) hHeld ?_; try simp only [Act.put, List.setIfInBounds_toArray, List.set_cons_zero, List.set_cons_succ])
          (refine wpAnyH_take (i := 8) (v := .int .i64 nn) rfl (by kernel_rfl) (by kernel_rfl) (by kernel_rfl) (fun _ _ _ h => h) (Or.inl ⟨by rfl, fun w9 hSw => by have hc9 := hSw.2; have hl9 := hSw.1; simp [go_sem, hc9, hl9]⟩) hHeld ?_; try simp only [Act.put, List.setIfInBounds_toArray, List.set_cons_zero, List.set_cons_succ])
          refine wpAnyH_ready (rs := [4, 9]) (by kernel_rfl) (by simp) ?_
          refine AllReadyH.cons rfl (fun K hK => ?_) (AllReadyH.cons rfl (fun K hK => ?_) AllReadyH.nil)
          · go_simp
            refine hK.out _ _ hHeld (fun hHeld => ?_)
            clear hK K
            try simp only [Act.put, List.setIfInBounds_toArray, List.set_cons_zero, List.set_cons_succ]
            (refine wpAnyH_ready (rs := [9]) (by kernel_rfl) (by simp) ?_; refine AllReadyH.cons rfl (fun K hK => ?_) AllReadyH.nil)
            go_simp
            go_at_call 25
            refine (words14_f _ _ (by omega)).mono ?_
            rintro e w' ⟨cw, rfl, x, rfl, hW⟩
            have pW := pD.mr x.h
            have mW := mD.trans x.h
            have c4w : x.u.cell? ⟨P, 4, none⟩ = some (.slice r.al N r.kl) := (pW.row.cell 4).trans hPV4
            have lW := pW.row.lt
            refine hK.out _ _ ⟨pW.row.lt, (pW.row.cell 3).trans hPV3⟩ (fun hHeld => ?_)
            clear hK K
            try simp only [Act.put, List.setIfInBounds_toArray, List.set_cons_zero, List.set_cons_succ]
            (refine wpAnyH_ready (rs := [10]) (by kernel_rfl) (by simp) ?_; refine AllReadyH.cons rfl (fun K hK => ?_) AllReadyH.nil)
            go_simp
            have mL : Mr x.u (x.u.alloc (.cells #[.slice (some ⟨Y.drew.heap.size, 0, none⟩) 6 cw] 22)) := (Mr.refl _).alloc _
            have pL := pW.mr mL
            have c4l := (pL.row.cell 4).trans hPV4
            have lL := pL.row.lt
            refine hK.out _ _ ⟨pL.row.lt, (pL.row.cell 3).trans hPV3⟩ (fun hHeld => ?_)
            clear hK K
            try simp only [Act.put, List.setIfInBounds_toArray, List.set_cons_zero, List.set_cons_succ]
            (refine wpAnyH_ready (rs := [11]) (by kernel_rfl) (by simp) ?_; refine AllReadyH.cons rfl (fun K hK => ?_) AllReadyH.nil)
            refine pL.lay (mW.trans mL) hP hM6 (by rw [hNr, ← hN]; omega) (wn_len nn) (hW.mr mL) lP (fun g e => Nat.ne_of_gt (pF.own_at e).2) (A := x.u.heap.size) (by simp) rfl _ _ rfl hNr rfl rfl (fun a2 k2 W2 hR2 mW2 hP2 => ?_)
            refine hK.out _ _ ⟨hR2.lt, (hR2.cell 3).trans hPV3⟩ (fun hHeld => ?_)
            clear hK K
            try simp only [Act.put, List.setIfInBounds_toArray, List.set_cons_zero, List.set_cons_succ]
            (refine wpAnyH_take (i := 12) (v := .pointer (some ⟨P, 0, none⟩)) rfl (by kernel_rfl) (by kernel_rfl) (by kernel_rfl) (fun _ _ _ h => h) (Or.inl ⟨by rfl, fun w9 hSw => by simp [go_sem]⟩) hHeld ?_; try simp only [Act.put, List.setIfInBounds_toArray, List.set_cons_zero, List.set_cons_succ])
            (refine wpAnyH_take (i := 13) (v := .pointer (some ⟨P, 4, none⟩)) rfl (by kernel_rfl) (by kernel_rfl) (by kernel_rfl) (fun _ _ _ h => h) (Or.inl ⟨by rfl, fun w9 hSw => by simp [go_sem]⟩) hHeld ?_; try simp only [Act.put, List.setIfInBounds_toArray, List.set_cons_zero, List.set_cons_succ])
            (refine wpAnyH_ready (rs := [14]) (by kernel_rfl) (by simp) ?_; refine AllReadyH.cons rfl (fun K hK => ?_) AllReadyH.nil)
            have d4 := (hR2.cell 4).trans hPV4
            have g4 := hR2.froz 4
            have l4 := hR2.lt
            go_simp
            refine hK.out _ _ ⟨hP2.row.lt, by rw [← hnr]; exact (hP2.row.cell 3).trans (PV_3 _)⟩ (fun hHeld => ?_)
            clear hK K
            try simp only [Act.put, List.setIfInBounds_toArray, List.set_cons_zero, List.set_cons_succ]
            refine wpAnyH_done (by kernel_rfl) ?_ _
            go_wp2_with fail
            go_meet
            case rel => exact ⟨_, hP2, mW2.setCell hP _, by have hre := hre.out; subst hre; exact ⟨rfl, rfl, rfl, rfl, rfl, rfl, rfl, en, .inl ⟨ha, ⟨_, rfl, rfl⟩, rfl⟩⟩⟩
          · go_simp
            go_at_call 25
            refine (words14_f _ _ (by omega)).mono ?_
            rintro e w' ⟨cw, rfl, x, rfl, hW⟩
            have pW := pD.mr x.h
            have mW := mD.trans x.h
            have c4w : x.u.cell? ⟨P, 4, none⟩ = some (.slice r.al N r.kl) := (pW.row.cell 4).trans hPV4
            have lW := pW.row.lt
            refine hK.out _ _ ⟨pW.row.lt, (pW.row.cell 3).trans hPV3⟩ (fun hHeld => ?_)
            clear hK K
            try simp only [Act.put, List.setIfInBounds_toArray, List.set_cons_zero, List.set_cons_succ]
            refine wpAnyH_ready (rs := [4, 10]) (by kernel_rfl) (by simp) ?_
            refine AllReadyH.cons rfl (fun K hK => ?_) (AllReadyH.cons rfl (fun K hK => ?_) AllReadyH.nil)
            · go_simp
              refine hK.out _ _ hHeld (fun hHeld => ?_)
              clear hK K
              try simp only [Act.put, List.setIfInBounds_toArray, List.set_cons_zero, List.set_cons_succ]
              (refine wpAnyH_ready (rs := [10]) (by kernel_rfl) (by simp) ?_; refine AllReadyH.cons rfl (fun K hK => ?_) AllReadyH.nil)
              go_simp
              have mL : Mr x.u (x.u.alloc (.cells #[.slice (some ⟨Y.drew.heap.size, 0, none⟩) 6 cw] 22)) := (Mr.refl _).alloc _
              have pL := pW.mr mL
              have c4l := (pL.row.cell 4).trans hPV4
              have lL := pL.row.lt
              refine hK.out _ _ ⟨pL.row.lt, (pL.row.cell 3).trans hPV3⟩ (fun hHeld => ?_)
              clear hK K
              try simp only [Act.put, List.setIfInBounds_toArray, List.set_cons_zero, List.set_cons_succ]
              (refine wpAnyH_ready (rs := [11]) (by kernel_rfl) (by simp) ?_; refine AllReadyH.cons rfl (fun K hK => ?_) AllReadyH.nil)
              refine pL.lay (mW.trans mL) hP hM6 (by rw [hNr, ← hN]; omega) (wn_len nn) (hW.mr mL) lP (fun g e => Nat.ne_of_gt (pF.own_at e).2) (A := x.u.heap.size) (by simp) rfl _ _ rfl hNr rfl rfl (fun a2 k2 W2 hR2 mW2 hP2 => ?_)
              refine hK.out _ _ ⟨hR2.lt, (hR2.cell 3).trans hPV3⟩ (fun hHeld => ?_)
              clear hK K
              try simp only [Act.put, List.setIfInBounds_toArray, List.set_cons_zero, List.set_cons_succ]
              (refine wpAnyH_take (i := 12) (v := .pointer (some ⟨P, 0, none⟩)) rfl (by kernel_rfl) (by kernel_rfl) (by kernel_rfl) (fun _ _ _ h => h) (Or.inl ⟨by rfl, fun w9 hSw => by simp [go_sem]⟩) hHeld ?_; try simp only [Act.put, List.setIfInBounds_toArray, List.set_cons_zero, List.set_cons_succ])
              (refine wpAnyH_take (i := 13) (v := .pointer (some ⟨P, 4, none⟩)) rfl (by kernel_rfl) (by kernel_rfl) (by kernel_rfl) (fun _ _ _ h => h) (Or.inl ⟨by rfl, fun w9 hSw => by simp [go_sem]⟩) hHeld ?_; try simp only [Act.put, List.setIfInBounds_toArray, List.set_cons_zero, List.set_cons_succ])
              (refine wpAnyH_ready (rs := [14]) (by kernel_rfl) (by simp) ?_; refine AllReadyH.cons rfl (fun K hK => ?_) AllReadyH.nil)
              have d4 := (hR2.cell 4).trans hPV4
              have g4 := hR2.froz 4
              have l4 := hR2.lt
              go_simp
              refine hK.out _ _ ⟨hP2.row.lt, by rw [← hnr]; exact (hP2.row.cell 3).trans (PV_3 _)⟩ (fun hHeld => ?_)
              clear hK K
              try simp only [Act.put, List.setIfInBounds_toArray, List.set_cons_zero, List.set_cons_succ]
              refine wpAnyH_done (by kernel_rfl) ?_ _
              go_wp2_with fail
              go_meet
              case rel => exact ⟨_, hP2, mW2.setCell hP _, by have hre := hre.out; subst hre; exact ⟨rfl, rfl, rfl, rfl, rfl, rfl, rfl, en, .inl ⟨ha, ⟨_, rfl, rfl⟩, rfl⟩⟩⟩
            · go_simp
              have mL : Mr x.u (x.u.alloc (.cells #[.slice (some ⟨Y.drew.heap.size, 0, none⟩) 6 cw] 22)) := (Mr.refl _).alloc _
              have pL := pW.mr mL
              have c4l := (pL.row.cell 4).trans hPV4
              have lL := pL.row.lt
              refine hK.out _ _ ⟨pL.row.lt, (pL.row.cell 3).trans hPV3⟩ (fun hHeld => ?_)
              clear hK K
              try simp only [Act.put, List.setIfInBounds_toArray, List.set_cons_zero, List.set_cons_succ]
              (refine wpAnyH_ready (rs := [4]) (by kernel_rfl) (by simp) ?_; refine AllReadyH.cons rfl (fun K hK => ?_) AllReadyH.nil)
              go_simp
              refine hK.out _ _ hHeld (fun hHeld => ?_)
              clear hK K
              try simp only [Act.put, List.setIfInBounds_toArray, List.set_cons_zero, List.set_cons_succ]
              (refine wpAnyH_ready (rs := [11]) (by kernel_rfl) (by simp) ?_; refine AllReadyH.cons rfl (fun K hK => ?_) AllReadyH.nil)
              refine pL.lay (mW.trans mL) hP hM6 (by rw [hNr, ← hN]; omega) (wn_len nn) (hW.mr mL) lP (fun g e => Nat.ne_of_gt (pF.own_at e).2) (A := x.u.heap.size) (by simp) rfl _ _ rfl hNr rfl rfl (fun a2 k2 W2 hR2 mW2 hP2 => ?_)
              refine hK.out _ _ ⟨hR2.lt, (hR2.cell 3).trans hPV3⟩ (fun hHeld => ?_)
              clear hK K
              try simp only [Act.put, List.setIfInBounds_toArray, List.set_cons_zero, List.set_cons_succ]
              (refine wpAnyH_take (i := 12) (v := .pointer (some ⟨P, 0, none⟩)) rfl (by kernel_rfl) (by kernel_rfl) (by kernel_rfl) (fun _ _ _ h => h) (Or.inl ⟨by rfl, fun w9 hSw => by simp [go_sem]⟩) hHeld ?_; try simp only [Act.put, List.setIfInBounds_toArray, List.set_cons_zero, List.set_cons_succ])
              (refine wpAnyH_take (i := 13) (v := .pointer (some ⟨P, 4, none⟩)) rfl (by kernel_rfl) (by kernel_rfl) (by kernel_rfl) (fun _ _ _ h => h) (Or.inl ⟨by rfl, fun w9 hSw => by simp [go_sem]⟩) hHeld ?_; try simp only [Act.put, List.setIfInBounds_toArray, List.set_cons_zero, List.set_cons_succ])
              (refine wpAnyH_ready (rs := [14]) (by kernel_rfl) (by simp) ?_; refine AllReadyH.cons rfl (fun K hK => ?_) AllReadyH.nil)
              have d4 := (hR2.cell 4).trans hPV4
              have g4 := hR2.froz 4
              have l4 := hR2.lt
              go_simp
              refine hK.out _ _ ⟨hP2.row.lt, by rw [← hnr]; exact (hP2.row.cell 3).trans (PV_3 _)⟩ (fun hHeld => ?_)
              clear hK K
              try simp only [Act.put, List.setIfInBounds_toArray, List.set_cons_zero, List.set_cons_succ]
              refine wpAnyH_done (by kernel_rfl) ?_ _
              go_wp2_with fail
              go_meet
              case rel => exact ⟨_, hP2, mW2.setCell hP _, by have hre := hre.out; subst hre; exact ⟨rfl, rfl, rfl, rfl, rfl, rfl, rfl, en, .inl ⟨ha, ⟨_, rfl, rfl⟩, rfl⟩⟩⟩
        case rest =>
          obtain ⟨q, pq, mq, hq⟩ := hcut
          clear pF mF
          generalize wc = yq at *
          have hqn : q.nx = nn := hq.2.2.2.2.2.2.2.1
          have c3 := (pq.row.cell 3).trans (PV_3 q)
          rw [hqn] at c3
          have c79 := (pq.row.cell 79).trans (PV_79 pq.rg)
          have f3 := pq.row.froz 3
          have f79 := pq.row.froz 79
          have lq := pq.row.lt
          have rG : Row ((yq.setCell ⟨P, 3, none⟩ (.int .i64 ((nn : Int) + 1))).setCell ⟨P, 79, none⟩ (.int .i64 0)) P 42 (PV { q with nx := (nn : Int) + 1, ly := 0 }) := by
            rw [← PV_set79 (s := { q with nx := (nn : Int) + 1 }) pq.rg 0, ← PV_set3 q ((nn : Int) + 1)]
            exact (pq.row.set 3 _).set 79 _
          have pG := pq.turn (((Ko.refl P yq).set 3 _).set 79 _) { q with nx := (nn : Int) + 1, ly := 0 } rG rfl rfl rfl rfl rfl rfl rfl rfl
          have mG := (mq.setCell hP (a := ⟨P, 3, none⟩) (.int .i64 ((nn : Int) + 1))).setCell hP (a := ⟨P, 79, none⟩) (.int .i64 0)
          clear pq mq rG
          go_upto_region 12 with (fail)
          generalize (yq.setCell ⟨P, 3, none⟩ (.int .i64 ((nn : Int) + 1))).setCell ⟨P, 79, none⟩ (.int .i64 0) = Z at *
          clear c3 c79 f3 f79 lq
          obtain ⟨r2, hr2⟩ : ∃ r2 : Pl, r2 = { q with nx := (nn : Int) + 1, ly := 0 } := ⟨_, rfl⟩
          rw [← hr2] at pG
          obtain ⟨N2, hN2⟩ : ∃ N2, r2.L.length = N2 := ⟨_, rfl⟩
          have hN2b : N2 ≤ 1001 := by rw [← hN2, hr2]; show q.L.length ≤ _; rcases hq.2.2.2.2.2.2.2.2 with ⟨_, ⟨x, _, e⟩, _⟩ | ⟨_, e, _⟩ <;> rw [e] <;> first | omega | (rw [List.length_append]; show s.L.length + 1 ≤ _; omega)
          have lk0 : Lk Z P B C ((nn : Int) + 1) r2.al N2 r2.kl := by have e := pG.lk; rw [hN2] at e; have e1 : r2.b = B := (by rw [hr2]; exact hq.1.trans eb); have e2 : r2.c = C := (by rw [hr2]; exact hq.2.1.trans ec); have e3 : r2.nx = (nn : Int) + 1 := (by rw [hr2]); rw [e1, e2, e3] at e; exact e
          obtain ⟨T2, hT2⟩ : ∃ T2, Tk.start (pushL B C (N2 : Int) (wn ((nn : Int) + 1))) = T2 := ⟨_, rfl⟩
          have hN2q : N2 = q.L.length := by rw [← hN2, hr2]
          have hLay : ∀ cs ks, Lay s { r2 with y := ⟨cs, ks, T2⟩ } B C nn := fun cs ks => by
            subst hr2
            obtain ⟨q1, q2, q3, q4, q5, q6, q7, q8, q9⟩ := hq
            unfold Lay; rw [hT1, hM1]
            refine ⟨q1, q2, q3, q4, q5, q6, q7, .inr ?_⟩
            rcases q9 with ⟨h1, ⟨x, hx, hL2⟩, h3⟩ | ⟨h1, h2, h3⟩
            · exact .inl ⟨hd, h1, ⟨x, hx, hL2⟩, h3, rfl, rfl, by show T2 = _; rw [← hT2, hN2q, hL2, List.length_append]; rfl⟩
            · exact .inr ⟨hd, h1, h2, h3, rfl, rfl, by show T2 = _; rw [← hT2, hN2q, h2]; rfl⟩
          have hM9 : 0 < r2.M.length := by rw [hr2]; show 0 < q.M.length; rw [hq.2.2.2.2.2.2.1, hM1l]; exact hn0
          clear hr2 hq hqn hre hN2q
          refine wp_region_held_drew (S := fun w' => Lk w' P B C ((nn : Int) + 1) r2.al N2 r2.kl) (by kernel_rfl) (lk0.mr (Mr.refl _).drew) (fun hHeld => ?_)
          (refine wpAnyH_take (i := 0) (v := .pointer (some ⟨P, 0, none⟩)) rfl (by kernel_rfl) (by kernel_rfl) (by kernel_rfl) (fun _ _ _ h => h) (Or.inl ⟨by rfl, fun w9 hSw => by simp [go_sem]⟩) hHeld ?_; try simp only [Act.put, List.setIfInBounds_toArray, List.set_cons_zero, List.set_cons_succ])
          (refine wpAnyH_take (i := 1) (v := .pointer (some ⟨P, 0, none⟩)) rfl (by kernel_rfl) (by kernel_rfl) (by kernel_rfl) (fun _ _ _ h => h) (Or.inl ⟨by rfl, fun w9 hSw => by simp [go_sem]⟩) hHeld ?_; try simp only [Act.put, List.setIfInBounds_toArray, List.set_cons_zero, List.set_cons_succ])
          (refine wpAnyH_take (i := 2) (v := .pointer (some ⟨P, 0, none⟩)) rfl (by kernel_rfl) (by kernel_rfl) (by kernel_rfl) (fun _ _ _ h => h) (Or.inl ⟨by rfl, fun w9 hSw => by simp [go_sem]⟩) hHeld ?_; try simp only [Act.put, List.setIfInBounds_toArray, List.set_cons_zero, List.set_cons_succ])
          (refine wpAnyH_take (i := 3) (v := .pointer (some ⟨P, 1, none⟩)) rfl (by kernel_rfl) (by kernel_rfl) (by kernel_rfl) (fun _ _ _ h => h) (Or.inl ⟨by rfl, fun w9 hSw => by simp [go_sem]⟩) hHeld ?_; try simp only [Act.put, List.setIfInBounds_toArray, List.set_cons_zero, List.set_cons_succ])
          (refine wpAnyH_take (i := 4) (v := .int .i64 B) rfl (by kernel_rfl) (by kernel_rfl) (by kernel_rfl) (fun _ _ _ h => h) (Or.inl ⟨by rfl, fun w9 hSw => by have hc9 := hSw.c1; have hl9 := hSw.lt; simp [go_sem, hc9, hl9]⟩) hHeld ?_; try simp only [Act.put, List.setIfInBounds_toArray, List.set_cons_zero, List.set_cons_succ])
          (refine wpAnyH_take (i := 5) (v := .pointer (some ⟨P, 0, none⟩)) rfl (by kernel_rfl) (by kernel_rfl) (by kernel_rfl) (fun _ _ _ h => h) (Or.inl ⟨by rfl, fun w9 hSw => by simp [go_sem]⟩) hHeld ?_; try simp only [Act.put, List.setIfInBounds_toArray, List.set_cons_zero, List.set_cons_succ])
          (refine wpAnyH_take (i := 6) (v := .pointer (some ⟨P, 0, none⟩)) rfl (by kernel_rfl) (by kernel_rfl) (by kernel_rfl) (fun _ _ _ h => h) (Or.inl ⟨by rfl, fun w9 hSw => by simp [go_sem]⟩) hHeld ?_; try simp only [Act.put, List.setIfInBounds_toArray, List.set_cons_zero, List.set_cons_succ])
          (refine wpAnyH_take (i := 7) (v := .pointer (some ⟨P, 2, none⟩)) rfl (by kernel_rfl) (by kernel_rfl) (by kernel_rfl) (fun _ _ _ h => h) (Or.inl ⟨by rfl, fun w9 hSw => by simp [go_sem]⟩) hHeld ?_; try simp only [Act.put, List.setIfInBounds_toArray, List.set_cons_zero, List.set_cons_succ])
          (refine wpAnyH_take (i := 8) (v := .int .i64 C) rfl (by kernel_rfl) (by kernel_rfl) (by kernel_rfl) (fun _ _ _ h => h) (Or.inl ⟨by rfl, fun w9 hSw => by have hc9 := hSw.c2; have hl9 := hSw.lt; simp [go_sem, hc9, hl9]⟩) hHeld ?_; try simp only [Act.put, List.setIfInBounds_toArray, List.set_cons_zero, List.set_cons_succ])
          (refine wpAnyH_take (i := 9) (v := .pointer (some ⟨P, 0, none⟩)) rfl (by kernel_rfl) (by kernel_rfl) (by kernel_rfl) (fun _ _ _ h => h) (Or.inl ⟨by rfl, fun w9 hSw => by simp [go_sem]⟩) hHeld ?_; try simp only [Act.put, List.setIfInBounds_toArray, List.set_cons_zero, List.set_cons_succ])
          (refine wpAnyH_take (i := 10) (v := .pointer (some ⟨P, 0, none⟩)) rfl (by kernel_rfl) (by kernel_rfl) (by kernel_rfl) (fun _ _ _ h => h) (Or.inl ⟨by rfl, fun w9 hSw => by simp [go_sem]⟩) hHeld ?_; try simp only [Act.put, List.setIfInBounds_toArray, List.set_cons_zero, List.set_cons_succ])
          (refine wpAnyH_take (i := 11) (v := .pointer (some ⟨P, 4, none⟩)) rfl (by kernel_rfl) (by kernel_rfl) (by kernel_rfl) (fun _ _ _ h => h) (Or.inl ⟨by rfl, fun w9 hSw => by simp [go_sem]⟩) hHeld ?_; try simp only [Act.put, List.setIfInBounds_toArray, List.set_cons_zero, List.set_cons_succ])
          (refine wpAnyH_take (i := 12) (v := .slice r2.al N2 r2.kl) rfl (by kernel_rfl) (by kernel_rfl) (by kernel_rfl) (fun _ _ _ h => h) (Or.inl ⟨by rfl, fun w9 hSw => by have hc9 := hSw.c4; have hl9 := hSw.lt; simp [go_sem, hc9, hl9]⟩) hHeld ?_; try simp only [Act.put, List.setIfInBounds_toArray, List.set_cons_zero, List.set_cons_succ])
          (refine wpAnyH_take (i := 13) (v := .int .i64 N2) rfl (by kernel_rfl) (by kernel_rfl) (by kernel_rfl) (fun _ _ _ h => h) (Or.inl ⟨by rfl, fun w9 hSw => by simp [go_sem]⟩) hHeld ?_; try simp only [Act.put, List.setIfInBounds_toArray, List.set_cons_zero, List.set_cons_succ])
          (refine wpAnyH_take (i := 14) (v := .pointer (some ⟨P, 0, none⟩)) rfl (by kernel_rfl) (by kernel_rfl) (by kernel_rfl) (fun _ _ _ h => h) (Or.inl ⟨by rfl, fun w9 hSw => by simp [go_sem]⟩) hHeld ?_; try simp only [Act.put, List.setIfInBounds_toArray, List.set_cons_zero, List.set_cons_succ])
          (refine wpAnyH_take (i := 15) (v := .pointer (some ⟨P, 0, none⟩)) rfl (by kernel_rfl) (by kernel_rfl) (by kernel_rfl) (fun _ _ _ h => h) (Or.inl ⟨by rfl, fun w9 hSw => by simp [go_sem]⟩) hHeld ?_; try simp only [Act.put, List.setIfInBounds_toArray, List.set_cons_zero, List.set_cons_succ])
          (refine wpAnyH_take (i := 16) (v := .pointer (some ⟨P, 3, none⟩)) rfl (by kernel_rfl) (by kernel_rfl) (by kernel_rfl) (fun _ _ _ h => h) (Or.inl ⟨by rfl, fun w9 hSw => by simp [go_sem]⟩) hHeld ?_; try simp only [Act.put, List.setIfInBounds_toArray, List.set_cons_zero, List.set_cons_succ])
          (refine wpAnyH_take (i := 17) (v := .int .i64 ((nn : Int) + 1)) rfl (by kernel_rfl) (by kernel_rfl) (by kernel_rfl) (fun _ _ _ h => h) (Or.inl ⟨by rfl, fun w9 hSw => by have hc9 := hSw.c3; have hl9 := hSw.lt; simp [go_sem, hc9, hl9]⟩) hHeld ?_; try simp only [Act.put, List.setIfInBounds_toArray, List.set_cons_zero, List.set_cons_succ])
          (refine wpAnyH_ready (rs := [18]) (by kernel_rfl) (by simp) ?_; refine AllReadyH.cons rfl (fun K hK => ?_) AllReadyH.nil)
          go_simp
          go_at_call 25
          refine (words14_f _ _ (by omega)).mono ?_
          rintro e w' ⟨cw, rfl, x, rfl, hW⟩
          refine hK.out _ _ (hHeld.mr x.h) (fun hHeld => ?_)
          clear hK K
          try simp only [Act.put, List.setIfInBounds_toArray, List.set_cons_zero, List.set_cons_succ]
          (refine wpAnyH_ready (rs := [19]) (by kernel_rfl) (by simp) ?_; refine AllReadyH.cons rfl (fun K hK => ?_) AllReadyH.nil)
          go_simp
          go_at_call 14
          refine (gpush_f _ _ _ _ (by omega) (by omega) (by omega) hW (wn_len _)).mono ?_
          rw [push_is hC hB]
          rintro e w' ⟨ap, kp, rfl, hfp, xp, rfl, hCp⟩
          refine hK.out _ _ (hHeld.mr xp.h) (fun hHeld => ?_)
          clear hK K
          try simp only [Act.put, List.setIfInBounds_toArray, List.set_cons_zero, List.set_cons_succ]
          (refine wpAnyH_ready (rs := [20]) (by kernel_rfl) (by simp) ?_; refine AllReadyH.cons rfl (fun K hK => ?_) AllReadyH.nil)
          go_simp
          go_at_call 24
          refine (tstart_f _ hCp rfl).mono ?_
          rw [hT2]
          rintro e w' ⟨cs, ks, rfl, hfs, xs, rfl, hTs⟩
          refine hK.out _ _ (hHeld.mr xs.h) (fun hHeld => ?_)
          clear hK K
          try simp only [Act.put, List.setIfInBounds_toArray, List.set_cons_zero, List.set_cons_succ]
          (refine wpAnyH_take (i := 21) (v := .pointer (some ⟨P, 0, none⟩)) rfl (by kernel_rfl) (by kernel_rfl) (by kernel_rfl) (fun _ _ _ h => h) (Or.inl ⟨by rfl, fun w9 hSw => by simp [go_sem]⟩) hHeld ?_; try simp only [Act.put, List.setIfInBounds_toArray, List.set_cons_zero, List.set_cons_succ])
          (refine wpAnyH_take (i := 22) (v := .pointer (some ⟨P, 7, none⟩)) rfl (by kernel_rfl) (by kernel_rfl) (by kernel_rfl) (fun _ _ _ h => h) (Or.inl ⟨by rfl, fun w9 hSw => by simp [go_sem]⟩) hHeld ?_; try simp only [Act.put, List.setIfInBounds_toArray, List.set_cons_zero, List.set_cons_succ])
          (refine wpAnyH_ready (rs := [23]) (by kernel_rfl) (by simp) ?_; refine AllReadyH.cons rfl (fun K hK => ?_) AllReadyH.nil)
          have mZ := (((Mr.refl Z).drew.trans x.h).trans xp.h).trans xs.h
          have pX := pG.mr mZ
          have hcs : ∀ b o, cs = some ⟨b, o, none⟩ → Z.heap.size ≤ b := fun b o e => Nat.le_trans (((Mr.refl Z).drew.trans x.h).below.size) (hfp b o (hfs b o e))
          have hyf2 : T2.code ≠ [] → ∀ b o, cs = some ⟨b, o, none⟩ → b ≠ P := fun _ b o e => by have := hcs b o e; have := pG.row.lt; omega
          have kC : Ko P xs.u (xs.u.setCells P 7 (TV cs ks T2).toList) := (Ko.refl P xs.u).cells 7 _
          have rC : Row (xs.u.setCells P 7 (TV cs ks T2).toList) P 42 (PV { r2 with y := ⟨cs, ks, T2⟩ }) := by rw [← PV_setY pX.rg ⟨cs, ks, T2⟩ hTs.2.len]; exact Row.cells pX.row 7 _
          have fC : Far { r2 with y := ⟨cs, ks, T2⟩ } := fun g e => by
            have e : r2.al = some ⟨g, 0, none⟩ := e
            have q := pG.far g e
            exact ⟨q.1, q.2.1, fun _ b o e' => by have := hcs b o e'; have := (pG.own_at e).2; omega, q.2.2.2⟩
          have pC := pX.parts kC { r2 with y := ⟨cs, ks, T2⟩ } rC (kC.wl pX.mem pX.memf) pX.memf rfl rfl rfl (kC.tis hTs hyf2) hyf2 (kC.tis pX.z pX.zf) pX.zf fC
          have mC : Mr w0 (xs.u.setCells P 7 (TV cs ks T2).toList) := mr_cells (mG.trans mZ) hP _ _
          have hV2 : (TV cs ks T2).size = 36 := TV_size hTs.2.len
          rw [if_pos (by rfl)]
          refine wp_store_mid 27 _ _ rfl P 7 (TV cs ks T2) rfl rfl (by rw [hV2]; exact pX.there 7 (by omega)) (sizeT hTs.2.len) (TV_one cs ks T2) ?_
          have lkC : Lk (xs.u.setCells P 7 (TV cs ks T2).toList) P B C ((nn : Int) + 1) r2.al N2 r2.kl := by
            have e := pC.lk
            have g1 := Option.some.inj (hHeld.c1.symm.trans ((pX.row.cell 1).trans (PV_1 r2)))
            have g2 := Option.some.inj (hHeld.c2.symm.trans ((pX.row.cell 2).trans (PV_2 r2)))
            have g3 := Option.some.inj (hHeld.c3.symm.trans ((pX.row.cell 3).trans (PV_3 r2)))
            have g4 := Option.some.inj (hHeld.c4.symm.trans ((pX.row.cell 4).trans (PV_4 r2)))
            exact ⟨e.lt, by rw [g1]; exact e.c1, by rw [g2]; exact e.c2, by rw [g3]; exact e.c3, by rw [g4]; exact e.c4⟩
          refine hK.out _ _ (lkC) (fun hHeld => ?_)
          clear hK K
          try simp only [Act.put, List.setIfInBounds_toArray, List.set_cons_zero, List.set_cons_succ]
          refine wpAnyH_done (by kernel_rfl) ?_ _
          go_wp2_with fail
          exact bodyPost_end (v := .tuple #[]) (by simp [results, Try.results20, go_sem]) rfl ⟨rfl, mC, _, pC, hLay cs ks⟩
      · have c2 : Y.cell? ⟨P, 2, none⟩ = some (.int .i64 C) := by rw [← ec]; have := (pF.row.cell 2).trans (PV_2 r); rw [hre.out] at this; exact this
        have c4 : Y.cell? ⟨P, 4, none⟩ = some (.slice r.al N r.kl) := (pF.row.cell 4).trans hPV4
        have c5 : Y.cell? ⟨P, 5, none⟩ = some (.int .i64 s.d) := by have := (pF.row.cell 5).trans (PV_5 r); rw [hre.out] at this; exact this
        have c6 : Y.cell? ⟨P, 6, none⟩ = some (.int .i64 s.h) := by have := (pF.row.cell 6).trans (PV_6 r); rw [hre.out] at this; exact this
        have c81 : Y.cell? ⟨P, 81, none⟩ = some (.bool true) := by have := (pF.row.cell 81).trans (PV_81 pF.rg); rw [hre.out] at this; exact this
        have f5 := pF.row.froz 5
        have f81 := pF.row.froz 81
        have lY := pF.row.lt
        have hcm : (N : Int) - s.h ≤ C := by rw [← hN]; exact hsh.2.2
        have hcm2 : 0 ≤ s.h ∧ s.h ≤ N := by rw [← hN]; exact ⟨hsh.1, hsh.2.1⟩
        go_upto_region 9 with (fail)
        go_cut [] (fun wx => ∃ q, Pin wx P q ∧ Mr w0 wx ∧ Mid s q M1 T1 nn)
        case first =>
          have rQ : Row ((Y.setCell ⟨P, 5, none⟩ (.int .i64 (s.d + 1))).setCell ⟨P, 81, none⟩ (.bool true)) P 42 (PV { r with d := s.d + 1, ok := true }) := by
            rw [← PV_set81 (s := { r with d := s.d + 1 }) pF.rg true, ← PV_set5 r (s.d + 1)]
            exact (pF.row.set 5 _).set 81 _
          have pQ := pF.turn (((Ko.refl P Y).set 5 _).set 81 _) { r with d := s.d + 1, ok := true } rQ rfl rfl rfl rfl rfl rfl rfl rfl
          have mQ := ((mF.setCell hP (a := ⟨P, 5, none⟩) (.int .i64 (s.d + 1))).setCell hP (a := ⟨P, 81, none⟩) (.bool true)).drew
          have pQd := pQ.mr (Mr.refl _).drew
          clear pQ rQ
          go_region
          go_wp2_with fail
          go_meet
          case rel => exact ⟨_, pQd, mQ, by have hre := hre.out; subst hre; exact ⟨rfl, rfl, rfl, rfl, rfl, rfl, rfl, en, .inr ⟨ha, rfl, rfl⟩⟩⟩
        case rest =>
          obtain ⟨q, pq, mq, hq⟩ := hcut
          clear pF mF
          generalize wc = yq at *
          have hqn : q.nx = nn := hq.2.2.2.2.2.2.2.1
          have c3 := (pq.row.cell 3).trans (PV_3 q)
          rw [hqn] at c3
          have c79 := (pq.row.cell 79).trans (PV_79 pq.rg)
          have f3 := pq.row.froz 3
          have f79 := pq.row.froz 79
          have lq := pq.row.lt
          have rG : Row ((yq.setCell ⟨P, 3, none⟩ (.int .i64 ((nn : Int) + 1))).setCell ⟨P, 79, none⟩ (.int .i64 0)) P 42 (PV { q with nx := (nn : Int) + 1, ly := 0 }) := by
            rw [← PV_set79 (s := { q with nx := (nn : Int) + 1 }) pq.rg 0, ← PV_set3 q ((nn : Int) + 1)]
            exact (pq.row.set 3 _).set 79 _
          have pG := pq.turn (((Ko.refl P yq).set 3 _).set 79 _) { q with nx := (nn : Int) + 1, ly := 0 } rG rfl rfl rfl rfl rfl rfl rfl rfl
          have mG := (mq.setCell hP (a := ⟨P, 3, none⟩) (.int .i64 ((nn : Int) + 1))).setCell hP (a := ⟨P, 79, none⟩) (.int .i64 0)
          clear pq mq rG
          go_upto_region 12 with (fail)
          generalize (yq.setCell ⟨P, 3, none⟩ (.int .i64 ((nn : Int) + 1))).setCell ⟨P, 79, none⟩ (.int .i64 0) = Z at *
          clear c3 c79 f3 f79 lq
          obtain ⟨r2, hr2⟩ : ∃ r2 : Pl, r2 = { q with nx := (nn : Int) + 1, ly := 0 } := ⟨_, rfl⟩
          rw [← hr2] at pG
          obtain ⟨N2, hN2⟩ : ∃ N2, r2.L.length = N2 := ⟨_, rfl⟩
          have hN2b : N2 ≤ 1001 := by rw [← hN2, hr2]; show q.L.length ≤ _; rcases hq.2.2.2.2.2.2.2.2 with ⟨_, ⟨x, _, e⟩, _⟩ | ⟨_, e, _⟩ <;> rw [e] <;> first | omega | (rw [List.length_append]; show s.L.length + 1 ≤ _; omega)
          have lk0 : Lk Z P B C ((nn : Int) + 1) r2.al N2 r2.kl := by have e := pG.lk; rw [hN2] at e; have e1 : r2.b = B := (by rw [hr2]; exact hq.1.trans eb); have e2 : r2.c = C := (by rw [hr2]; exact hq.2.1.trans ec); have e3 : r2.nx = (nn : Int) + 1 := (by rw [hr2]); rw [e1, e2, e3] at e; exact e
          obtain ⟨T2, hT2⟩ : ∃ T2, Tk.start (pushL B C (N2 : Int) (wn ((nn : Int) + 1))) = T2 := ⟨_, rfl⟩
          have hN2q : N2 = q.L.length := by rw [← hN2, hr2]
          have hLay : ∀ cs ks, Lay s { r2 with y := ⟨cs, ks, T2⟩ } B C nn := fun cs ks => by
            subst hr2
            obtain ⟨q1, q2, q3, q4, q5, q6, q7, q8, q9⟩ := hq
            unfold Lay; rw [hT1, hM1]
            refine ⟨q1, q2, q3, q4, q5, q6, q7, .inr ?_⟩
            rcases q9 with ⟨h1, ⟨x, hx, hL2⟩, h3⟩ | ⟨h1, h2, h3⟩
            · exact .inl ⟨hd, h1, ⟨x, hx, hL2⟩, h3, rfl, rfl, by show T2 = _; rw [← hT2, hN2q, hL2, List.length_append]; rfl⟩
            · exact .inr ⟨hd, h1, h2, h3, rfl, rfl, by show T2 = _; rw [← hT2, hN2q, h2]; rfl⟩
          have hM9 : 0 < r2.M.length := by rw [hr2]; show 0 < q.M.length; rw [hq.2.2.2.2.2.2.1, hM1l]; exact hn0
          clear hr2 hq hqn hre hN2q
          refine wp_region_held_drew (S := fun w' => Lk w' P B C ((nn : Int) + 1) r2.al N2 r2.kl) (by kernel_rfl) (lk0.mr (Mr.refl _).drew) (fun hHeld => ?_)
          (refine wpAnyH_take (i := 0) (v := .pointer (some ⟨P, 0, none⟩)) rfl (by kernel_rfl) (by kernel_rfl) (by kernel_rfl) (fun _ _ _ h => h) (Or.inl ⟨by rfl, fun w9 hSw => by simp [go_sem]⟩) hHeld ?_; try simp only [Act.put, List.setIfInBounds_toArray, List.set_cons_zero, List.set_cons_succ])
          (refine wpAnyH_take (i := 1) (v := .pointer (some ⟨P, 0, none⟩)) rfl (by kernel_rfl) (by kernel_rfl) (by kernel_rfl) (fun _ _ _ h => h) (Or.inl ⟨by rfl, fun w9 hSw => by simp [go_sem]⟩) hHeld ?_; try simp only [Act.put, List.setIfInBounds_toArray, List.set_cons_zero, List.set_cons_succ])
          (refine wpAnyH_take (i := 2) (v := .pointer (some ⟨P, 0, none⟩)) rfl (by kernel_rfl) (by kernel_rfl) (by kernel_rfl) (fun _ _ _ h => h) (Or.inl ⟨by rfl, fun w9 hSw => by simp [go_sem]⟩) hHeld ?_; try simp only [Act.put, List.setIfInBounds_toArray, List.set_cons_zero, List.set_cons_succ])
          (refine wpAnyH_take (i := 3) (v := .pointer (some ⟨P, 1, none⟩)) rfl (by kernel_rfl) (by kernel_rfl) (by kernel_rfl) (fun _ _ _ h => h) (Or.inl ⟨by rfl, fun w9 hSw => by simp [go_sem]⟩) hHeld ?_; try simp only [Act.put, List.setIfInBounds_toArray, List.set_cons_zero, List.set_cons_succ])
          (refine wpAnyH_take (i := 4) (v := .int .i64 B) rfl (by kernel_rfl) (by kernel_rfl) (by kernel_rfl) (fun _ _ _ h => h) (Or.inl ⟨by rfl, fun w9 hSw => by have hc9 := hSw.c1; have hl9 := hSw.lt; simp [go_sem, hc9, hl9]⟩) hHeld ?_; try simp only [Act.put, List.setIfInBounds_toArray, List.set_cons_zero, List.set_cons_succ])
          (refine wpAnyH_take (i := 5) (v := .pointer (some ⟨P, 0, none⟩)) rfl (by kernel_rfl) (by kernel_rfl) (by kernel_rfl) (fun _ _ _ h => h) (Or.inl ⟨by rfl, fun w9 hSw => by simp [go_sem]⟩) hHeld ?_; try simp only [Act.put, List.setIfInBounds_toArray, List.set_cons_zero, List.set_cons_succ])
          (refine wpAnyH_take (i := 6) (v := .pointer (some ⟨P, 0, none⟩)) rfl (by kernel_rfl) (by kernel_rfl) (by kernel_rfl) (fun _ _ _ h => h) (Or.inl ⟨by rfl, fun w9 hSw => by simp [go_sem]⟩) hHeld ?_; try simp only [Act.put, List.setIfInBounds_toArray, List.set_cons_zero, List.set_cons_succ])
          (refine wpAnyH_take (i := 7) (v := .pointer (some ⟨P, 2, none⟩)) rfl (by kernel_rfl) (by kernel_rfl) (by kernel_rfl) (fun _ _ _ h => h) (Or.inl ⟨by rfl, fun w9 hSw => by simp [go_sem]⟩) hHeld ?_; try simp only [Act.put, List.setIfInBounds_toArray, List.set_cons_zero, List.set_cons_succ])
          (refine wpAnyH_take (i := 8) (v := .int .i64 C) rfl (by kernel_rfl) (by kernel_rfl) (by kernel_rfl) (fun _ _ _ h => h) (Or.inl ⟨by rfl, fun w9 hSw => by have hc9 := hSw.c2; have hl9 := hSw.lt; simp [go_sem, hc9, hl9]⟩) hHeld ?_; try simp only [Act.put, List.setIfInBounds_toArray, List.set_cons_zero, List.set_cons_succ])
          (refine wpAnyH_take (i := 9) (v := .pointer (some ⟨P, 0, none⟩)) rfl (by kernel_rfl) (by kernel_rfl) (by kernel_rfl) (fun _ _ _ h => h) (Or.inl ⟨by rfl, fun w9 hSw => by simp [go_sem]⟩) hHeld ?_; try simp only [Act.put, List.setIfInBounds_toArray, List.set_cons_zero, List.set_cons_succ])
          (refine wpAnyH_take (i := 10) (v := .pointer (some ⟨P, 0, none⟩)) rfl (by kernel_rfl) (by kernel_rfl) (by kernel_rfl) (fun _ _ _ h => h) (Or.inl ⟨by rfl, fun w9 hSw => by simp [go_sem]⟩) hHeld ?_; try simp only [Act.put, List.setIfInBounds_toArray, List.set_cons_zero, List.set_cons_succ])
          (refine wpAnyH_take (i := 11) (v := .pointer (some ⟨P, 4, none⟩)) rfl (by kernel_rfl) (by kernel_rfl) (by kernel_rfl) (fun _ _ _ h => h) (Or.inl ⟨by rfl, fun w9 hSw => by simp [go_sem]⟩) hHeld ?_; try simp only [Act.put, List.setIfInBounds_toArray, List.set_cons_zero, List.set_cons_succ])
          (refine wpAnyH_take (i := 12) (v := .slice r2.al N2 r2.kl) rfl (by kernel_rfl) (by kernel_rfl) (by kernel_rfl) (fun _ _ _ h => h) (Or.inl ⟨by rfl, fun w9 hSw => by have hc9 := hSw.c4; have hl9 := hSw.lt; simp [go_sem, hc9, hl9]⟩) hHeld ?_; try simp only [Act.put, List.setIfInBounds_toArray, List.set_cons_zero, List.set_cons_succ])
          (refine wpAnyH_take (i := 13) (v := .int .i64 N2) rfl (by kernel_rfl) (by kernel_rfl) (by kernel_rfl) (fun _ _ _ h => h) (Or.inl ⟨by rfl, fun w9 hSw => by simp [go_sem]⟩) hHeld ?_; try simp only [Act.put, List.setIfInBounds_toArray, List.set_cons_zero, List.set_cons_succ])
          (refine wpAnyH_take (i := 14) (v := .pointer (some ⟨P, 0, none⟩)) rfl (by kernel_rfl) (by kernel_rfl) (by kernel_rfl) (fun _ _ _ h => h) (Or.inl ⟨by rfl, fun w9 hSw => by simp [go_sem]⟩) hHeld ?_; try simp only [Act.put, List.setIfInBounds_toArray, List.set_cons_zero, List.set_cons_succ])
          (refine wpAnyH_take (i := 15) (v := .pointer (some ⟨P, 0, none⟩)) rfl (by kernel_rfl) (by kernel_rfl) (by kernel_rfl) (fun _ _ _ h => h) (Or.inl ⟨by rfl, fun w9 hSw => by simp [go_sem]⟩) hHeld ?_; try simp only [Act.put, List.setIfInBounds_toArray, List.set_cons_zero, List.set_cons_succ])
          (refine wpAnyH_take (i := 16) (v := .pointer (some ⟨P, 3, none⟩)) rfl (by kernel_rfl) (by kernel_rfl) (by kernel_rfl) (fun _ _ _ h => h) (Or.inl ⟨by rfl, fun w9 hSw => by simp [go_sem]⟩) hHeld ?_; try simp only [Act.put, List.setIfInBounds_toArray, List.set_cons_zero, List.set_cons_succ])
          (refine wpAnyH_take (i := 17) (v := .int .i64 ((nn : Int) + 1)) rfl (by kernel_rfl) (by kernel_rfl) (by kernel_rfl) (fun _ _ _ h => h) (Or.inl ⟨by rfl, fun w9 hSw => by have hc9 := hSw.c3; have hl9 := hSw.lt; simp [go_sem, hc9, hl9]⟩) hHeld ?_; try simp only [Act.put, List.setIfInBounds_toArray, List.set_cons_zero, List.set_cons_succ])
          (refine wpAnyH_ready (rs := [18]) (by kernel_rfl) (by simp) ?_; refine AllReadyH.cons rfl (fun K hK => ?_) AllReadyH.nil)
          go_simp
          go_at_call 25
          refine (words14_f _ _ (by omega)).mono ?_
          rintro e w' ⟨cw, rfl, x, rfl, hW⟩
          refine hK.out _ _ (hHeld.mr x.h) (fun hHeld => ?_)
          clear hK K
          try simp only [Act.put, List.setIfInBounds_toArray, List.set_cons_zero, List.set_cons_succ]
          (refine wpAnyH_ready (rs := [19]) (by kernel_rfl) (by simp) ?_; refine AllReadyH.cons rfl (fun K hK => ?_) AllReadyH.nil)
          go_simp
          go_at_call 14
          refine (gpush_f _ _ _ _ (by omega) (by omega) (by omega) hW (wn_len _)).mono ?_
          rw [push_is hC hB]
          rintro e w' ⟨ap, kp, rfl, hfp, xp, rfl, hCp⟩
          refine hK.out _ _ (hHeld.mr xp.h) (fun hHeld => ?_)
          clear hK K
          try simp only [Act.put, List.setIfInBounds_toArray, List.set_cons_zero, List.set_cons_succ]
          (refine wpAnyH_ready (rs := [20]) (by kernel_rfl) (by simp) ?_; refine AllReadyH.cons rfl (fun K hK => ?_) AllReadyH.nil)
          go_simp
          go_at_call 24
          refine (tstart_f _ hCp rfl).mono ?_
          rw [hT2]
          rintro e w' ⟨cs, ks, rfl, hfs, xs, rfl, hTs⟩
          refine hK.out _ _ (hHeld.mr xs.h) (fun hHeld => ?_)
          clear hK K
          try simp only [Act.put, List.setIfInBounds_toArray, List.set_cons_zero, List.set_cons_succ]
          (refine wpAnyH_take (i := 21) (v := .pointer (some ⟨P, 0, none⟩)) rfl (by kernel_rfl) (by kernel_rfl) (by kernel_rfl) (fun _ _ _ h => h) (Or.inl ⟨by rfl, fun w9 hSw => by simp [go_sem]⟩) hHeld ?_; try simp only [Act.put, List.setIfInBounds_toArray, List.set_cons_zero, List.set_cons_succ])
          (refine wpAnyH_take (i := 22) (v := .pointer (some ⟨P, 7, none⟩)) rfl (by kernel_rfl) (by kernel_rfl) (by kernel_rfl) (fun _ _ _ h => h) (Or.inl ⟨by rfl, fun w9 hSw => by simp [go_sem]⟩) hHeld ?_; try simp only [Act.put, List.setIfInBounds_toArray, List.set_cons_zero, List.set_cons_succ])
          (refine wpAnyH_ready (rs := [23]) (by kernel_rfl) (by simp) ?_; refine AllReadyH.cons rfl (fun K hK => ?_) AllReadyH.nil)
          have mZ := (((Mr.refl Z).drew.trans x.h).trans xp.h).trans xs.h
          have pX := pG.mr mZ
          have hcs : ∀ b o, cs = some ⟨b, o, none⟩ → Z.heap.size ≤ b := fun b o e => Nat.le_trans (((Mr.refl Z).drew.trans x.h).below.size) (hfp b o (hfs b o e))
          have hyf2 : T2.code ≠ [] → ∀ b o, cs = some ⟨b, o, none⟩ → b ≠ P := fun _ b o e => by have := hcs b o e; have := pG.row.lt; omega
          have kC : Ko P xs.u (xs.u.setCells P 7 (TV cs ks T2).toList) := (Ko.refl P xs.u).cells 7 _
          have rC : Row (xs.u.setCells P 7 (TV cs ks T2).toList) P 42 (PV { r2 with y := ⟨cs, ks, T2⟩ }) := by rw [← PV_setY pX.rg ⟨cs, ks, T2⟩ hTs.2.len]; exact Row.cells pX.row 7 _
          have fC : Far { r2 with y := ⟨cs, ks, T2⟩ } := fun g e => by
            have e : r2.al = some ⟨g, 0, none⟩ := e
            have q := pG.far g e
            exact ⟨q.1, q.2.1, fun _ b o e' => by have := hcs b o e'; have := (pG.own_at e).2; omega, q.2.2.2⟩
          have pC := pX.parts kC { r2 with y := ⟨cs, ks, T2⟩ } rC (kC.wl pX.mem pX.memf) pX.memf rfl rfl rfl (kC.tis hTs hyf2) hyf2 (kC.tis pX.z pX.zf) pX.zf fC
          have mC : Mr w0 (xs.u.setCells P 7 (TV cs ks T2).toList) := mr_cells (mG.trans mZ) hP _ _
          have hV2 : (TV cs ks T2).size = 36 := TV_size hTs.2.len
          rw [if_pos (by rfl)]
          refine wp_store_mid 27 _ _ rfl P 7 (TV cs ks T2) rfl rfl (by rw [hV2]; exact pX.there 7 (by omega)) (sizeT hTs.2.len) (TV_one cs ks T2) ?_
          have lkC : Lk (xs.u.setCells P 7 (TV cs ks T2).toList) P B C ((nn : Int) + 1) r2.al N2 r2.kl := by
            have e := pC.lk
            have g1 := Option.some.inj (hHeld.c1.symm.trans ((pX.row.cell 1).trans (PV_1 r2)))
            have g2 := Option.some.inj (hHeld.c2.symm.trans ((pX.row.cell 2).trans (PV_2 r2)))
            have g3 := Option.some.inj (hHeld.c3.symm.trans ((pX.row.cell 3).trans (PV_3 r2)))
            have g4 := Option.some.inj (hHeld.c4.symm.trans ((pX.row.cell 4).trans (PV_4 r2)))
            exact ⟨e.lt, by rw [g1]; exact e.c1, by rw [g2]; exact e.c2, by rw [g3]; exact e.c3, by rw [g4]; exact e.c4⟩
          refine hK.out _ _ (lkC) (fun hHeld => ?_)
          clear hK K
          try simp only [Act.put, List.setIfInBounds_toArray, List.set_cons_zero, List.set_cons_succ]
          refine wpAnyH_done (by kernel_rfl) ?_ _
          go_wp2_with fail
          exact bodyPost_end (v := .tuple #[]) (by simp [results, Try.results20, go_sem]) rfl ⟨rfl, mC, _, pC, hLay cs ks⟩
end Rg
end Go.Proofs.Ytnbejkhcifeeiaa
