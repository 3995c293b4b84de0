/- For every two ints and every list of bools the law RingTurns answers true: of any ring and any turns of who lays and who takes, access by access, what is taken is what was laid, in order, each once, no more lie in it than it has places, drops are counted, and each push and pop is done within eight steps. No condition. -/
import Derived.Test.YtnbejkhcifeeiaaRows
import Derived.WalkKit
import Derived.ProofKit
import Derived.OpenShut
import Derived.ShutString
import Derived.ChangeOld
import Derived.Below
import Derived.Test.YtnbejkhcifeeiaaRingT
import Derived.Test.YtnbejkhcifeeiaaBlR
import Derived.Test.YtnbejkhcifeeiaaAccR
namespace Go.Proofs.Ytnbejkhcifeeiaa.ringTurns
open Go.ChangeShapes Go.WideShapes Go.ChangeAt Go.RowKit
set_option linter.unusedVariables false
theorem own : ownKnob Try.prog.godebug = none := by kernel_rfl
theorem laidOut : laidOutB Try.prog = true := by kernel_rfl

open Go.Proofs.Ytnbejkhcifeeiaa.Rg Go.Proofs.Ytnbejkhcifeeiaa.Tk Go.Proofs.Ytnbejkhcifeeiaa.Ce Go.Proofs.Ytnbejkhcifeeiaa.Wl Go.Proofs.Ytnbejkhcifeeiaa.Rw
set_option linter.unusedSimpArgs false
attribute [local go_sem] Ext.cell Ext.froz Ext.lt Ext.lt1 Ext.lt2 Ext.lt3 Ext.all drew_heap setCell_size Ext.set_size
attribute [-go_sem] loadCells
set_option maxHeartbeats 4000000 in
set_option maxRecDepth 100000 in
theorem walk (a0 : Int) (a1 : Int) (s2 : Option Addr) (n2 c2 : Nat) (w : World) (w0 : (Lit.int .i64 a0).wf = true) (w1 : (Lit.int .i64 a1).wf = true) (w2 : ∃ l : List Bool, l.length = n2 ∧ Bl.Bs w s2 c2 l) :
    Calls Try.prog 4 #[.int .i64 a0, .int .i64 a1, .slice s2 n2 c2] w fun e w' => e = .returned (.bool true) ∧ Below w.heap.size w w' := by
  have z0 := i64_bd w0
  have z1 := i64_bd w1
  obtain ⟨l, hl, hB2⟩ := w2
  have hn9 : n2 ≤ 9223372036854775807 := by have := hB2.max; have := hB2.le; unfold maxLen at *; omega
  clear w0 w1
  by_cases c1 : a0 < 0
  · go_enter Try.func4, Try.ntmps4; go_wp2_with (first | (go_at_call 8; refine (awake14_c _).mono ?_; rintro e w' ⟨rfl, x0, rfl⟩)); go_ret; exact ⟨rfl, Mr.grown (by repeat (first | (with_reducible exact Mr.refl _) | (with_reducible assumption) | (with_reducible apply Mr.drew) | (with_reducible apply Mr.alloc) | (with_reducible apply Mr.ext) | (with_reducible refine Mr.setCell ?_ (by first | (simp; done) | (simp; omega) | omega | (refine leOf0 ?_; (repeat (first | (with_reducible exact Mr.refl _) | (with_reducible apply Mr.drew) | (with_reducible apply Mr.alloc) | (with_reducible apply Mr.ext) | (with_reducible refine Mr.setCell ?_ (by first | (simp; done) | (simp; omega) | omega) _))); done) | (refine leOf ?_; (repeat (first | (with_reducible exact Mr.refl _) | (with_reducible apply Mr.drew) | (with_reducible apply Mr.alloc) | (with_reducible apply Mr.ext) | (with_reducible refine Mr.setCell ?_ (by first | (simp; done) | (simp; omega) | omega) _))); done)) _)))⟩
  by_cases c2 : 100 < a0
  · go_enter Try.func4, Try.ntmps4; go_wp2_with (first | (go_at_call 8; refine (awake14_c _).mono ?_; rintro e w' ⟨rfl, x0, rfl⟩)); go_ret; exact ⟨rfl, Mr.grown (by repeat (first | (with_reducible exact Mr.refl _) | (with_reducible assumption) | (with_reducible apply Mr.drew) | (with_reducible apply Mr.alloc) | (with_reducible apply Mr.ext) | (with_reducible refine Mr.setCell ?_ (by first | (simp; done) | (simp; omega) | omega | (refine leOf0 ?_; (repeat (first | (with_reducible exact Mr.refl _) | (with_reducible apply Mr.drew) | (with_reducible apply Mr.alloc) | (with_reducible apply Mr.ext) | (with_reducible refine Mr.setCell ?_ (by first | (simp; done) | (simp; omega) | omega) _))); done) | (refine leOf ?_; (repeat (first | (with_reducible exact Mr.refl _) | (with_reducible apply Mr.drew) | (with_reducible apply Mr.alloc) | (with_reducible apply Mr.ext) | (with_reducible refine Mr.setCell ?_ (by first | (simp; done) | (simp; omega) | omega) _))); done)) _)))⟩
  by_cases c3 : a1 < 1
  · go_enter Try.func4, Try.ntmps4; go_wp2_with (first | (go_at_call 8; refine (awake14_c _).mono ?_; rintro e w' ⟨rfl, x0, rfl⟩)); go_ret; exact ⟨rfl, Mr.grown (by repeat (first | (with_reducible exact Mr.refl _) | (with_reducible assumption) | (with_reducible apply Mr.drew) | (with_reducible apply Mr.alloc) | (with_reducible apply Mr.ext) | (with_reducible refine Mr.setCell ?_ (by first | (simp; done) | (simp; omega) | omega | (refine leOf0 ?_; (repeat (first | (with_reducible exact Mr.refl _) | (with_reducible apply Mr.drew) | (with_reducible apply Mr.alloc) | (with_reducible apply Mr.ext) | (with_reducible refine Mr.setCell ?_ (by first | (simp; done) | (simp; omega) | omega) _))); done) | (refine leOf ?_; (repeat (first | (with_reducible exact Mr.refl _) | (with_reducible apply Mr.drew) | (with_reducible apply Mr.alloc) | (with_reducible apply Mr.ext) | (with_reducible refine Mr.setCell ?_ (by first | (simp; done) | (simp; omega) | omega) _))); done)) _)))⟩
  by_cases c4 : 8 < a1
  · go_enter Try.func4, Try.ntmps4; go_wp2_with (first | (go_at_call 8; refine (awake14_c _).mono ?_; rintro e w' ⟨rfl, x0, rfl⟩)); go_ret; exact ⟨rfl, Mr.grown (by repeat (first | (with_reducible exact Mr.refl _) | (with_reducible assumption) | (with_reducible apply Mr.drew) | (with_reducible apply Mr.alloc) | (with_reducible apply Mr.ext) | (with_reducible refine Mr.setCell ?_ (by first | (simp; done) | (simp; omega) | omega | (refine leOf0 ?_; (repeat (first | (with_reducible exact Mr.refl _) | (with_reducible apply Mr.drew) | (with_reducible apply Mr.alloc) | (with_reducible apply Mr.ext) | (with_reducible refine Mr.setCell ?_ (by first | (simp; done) | (simp; omega) | omega) _))); done) | (refine leOf ?_; (repeat (first | (with_reducible exact Mr.refl _) | (with_reducible apply Mr.drew) | (with_reducible apply Mr.alloc) | (with_reducible apply Mr.ext) | (with_reducible refine Mr.setCell ?_ (by first | (simp; done) | (simp; omega) | omega) _))); done)) _)))⟩
  by_cases c5 : 400 < n2
  · have c5' : (400 : Int) < n2 := by omega
    go_enter Try.func4, Try.ntmps4; go_wp2_with (first | (go_at_call 8; refine (awake14_c _).mono ?_; rintro e w' ⟨rfl, x0, rfl⟩)); go_ret; exact ⟨rfl, Mr.grown (by repeat (first | (with_reducible exact Mr.refl _) | (with_reducible assumption) | (with_reducible apply Mr.drew) | (with_reducible apply Mr.alloc) | (with_reducible apply Mr.ext) | (with_reducible refine Mr.setCell ?_ (by first | (simp; done) | (simp; omega) | omega | (refine leOf0 ?_; (repeat (first | (with_reducible exact Mr.refl _) | (with_reducible apply Mr.drew) | (with_reducible apply Mr.alloc) | (with_reducible apply Mr.ext) | (with_reducible refine Mr.setCell ?_ (by first | (simp; done) | (simp; omega) | omega) _))); done) | (refine leOf ?_; (repeat (first | (with_reducible exact Mr.refl _) | (with_reducible apply Mr.drew) | (with_reducible apply Mr.alloc) | (with_reducible apply Mr.ext) | (with_reducible refine Mr.setCell ?_ (by first | (simp; done) | (simp; omega) | omega) _))); done)) _)))⟩
  obtain ⟨B, rfl⟩ := Int.eq_ofNat_of_zero_le (show 0 ≤ a0 by omega)
  obtain ⟨C, rfl⟩ := Int.eq_ofNat_of_zero_le (show 0 ≤ a1 by omega)
  have hC : 1 ≤ C ∧ C ≤ 8 := by omega
  have hB : B ≤ 100 := by omega
  have hn : n2 ≤ 400 := by omega
  have c5' : ¬ (400 : Int) < n2 := by omega
  have hst := fun am km ca1 cc1 ca2 cc2 => At.start (B := B) hC am km ca1 cc1 ca2 cc2
  replace hst : Hid _ := hst
  go_enter Try.func4, Try.ntmps4
  go_wp2_with (first | (go_at_call 8; refine (awake14_c _).mono ?_; rintro e w' ⟨rfl, x0, rfl⟩) | (go_at_call 19; refine (begun_c hC hB _).mono ?_; rintro e w' ⟨P, am0, km0, ca1, cc1, ca2, cc2, rfl, hP0, mb, hPin⟩))
  have hPw : w.heap.size ≤ P := Nat.le_trans x0.h.below.size hP0
  have hmw : Mr w w' := x0.h.trans mb
  have hst := hst.out am0 km0 ca1 cc1 ca2 cc2
  replace hst : Hid _ := hst
  clear hP0 mb x0
  go_loopw [9] (fun iv wr => ∃ (i : Nat) (s : Pl) (d h nn k1 k2 : Nat), i ≤ n2 ∧ iv = .int .i64 i ∧ Pin wr P s ∧ Mr w wr ∧ nn ≤ i ∧ Hid (At B C s d h nn k1 k2)) (fun i _ => n2 - (intOf i).toNat)
  case atStart => exact ⟨0, _, 0, 0, 0, 0, 0, by omega, rfl, hPin, hmw, by omega, hst⟩
  case round =>
    obtain ⟨i, s, d, h, nn, k1, k2, hi, rfl, hp, hmr, hni, hAt⟩ := hrel
    clear hst hPin hmw
    have c81 : wr.cell? ⟨P, 81, none⟩ = some (.bool true) := by rw [← hAt.out.ok]; exact (hp.row.cell 81).trans (PV_81 hp.rg)
    have lP := hp.row.lt
    by_cases hlt : i < n2
    · have hlt' : (i : Int) < n2 := by omega
      obtain ⟨b1, o1, rfl, hb1, hc1⟩ := Bl.num (hB2.mr hmr) (i := i) (by omega)
      generalize l[i] = turn at *
      have hsum := hAt.out.sum
      have hN : s.L.length + d ≤ 1000 := by omega
      have hLb : s.L.length ≤ 1000 := by omega
      have hr := hAt.out.ring
      have hM0 : 0 < s.M.length := by rw [hr.len]; omega
      have hle : h ≤ s.L.length := by have := hr.le; rwa [List.length_map] at this
      have hfew : s.L.length - h ≤ C := by have := hr.few; rwa [List.length_map] at this
      have hsd : 0 ≤ s.d ∧ s.d ≤ 1000 := by rw [hAt.out.ed]; omega
      have hsh : 0 ≤ s.h ∧ s.h ≤ s.L.length ∧ (s.L.length : Int) - s.h ≤ C := by rw [hAt.out.eh]; omega
      have hly : 0 ≤ s.ly ∧ s.ly + 1 ≤ 8 := by
        have := (lay_step hC hB (by rw [List.length_map]; omega) (wn_len nn) hr hAt.out.lay).1
        rw [hAt.out.ely]; omega
      have hpp : 0 ≤ s.pp ∧ s.pp + 1 ≤ 8 := by
        have := (take_step hC hB (by rw [List.length_map]; omega) hr hAt.out.take).1
        rw [hAt.out.epp]; omega
      have htk := hAt.out.tells hC hB hN
      replace htk : Hid _ := htk
      have hh9 : h ≤ 1000 := by omega
      clear hr hle hfew
      cases turn
      · go_upto_region 11 with (first | (go_at_call 21; refine (taker_c hC hB w _ hmr hPw hp hAt.out.b hAt.out.c hAt.out.eh hAt.out.ok hpp hM0 hLb hh9 htk.out).mono ?_; rintro e w2 ⟨rfl, hm2, t, hp2, hg⟩))
        obtain ⟨h', k', hAt2⟩ := At.took hC hB hN hAt.out hg
        obtain ⟨d', nn', hd', hnn'⟩ : ∃ d' nn', d' = d ∧ nn' = nn := ⟨_, _, rfl, rfl⟩
        rw [← hd', ← hnn'] at hAt2
        have hni' : nn' ≤ i + 1 := by omega
        clear hg htk hpp hh9 hly hsh hsd hM0 hLb hN hsum hAt hc1 hb1 hp hmr c81 lP hni
        have hr := hAt2.ring
        have hsum := hAt2.sum
        obtain ⟨Z, hZ⟩ : ∃ Z, t.M.length = Z := ⟨_, rfl⟩
        obtain ⟨N, hN⟩ : ∃ N, t.L.length = N := ⟨_, rfl⟩
        have hZe : Z = B + 3 + 6 * C := by rw [← hZ]; exact hr.len
        have hNb : N ≤ 1000 := by omega
        have hle : h' ≤ N := by have := hr.le; rw [List.length_map, hN] at this; exact this
        have hZd : ((Z : Int) != (B : Int) + 3 + 6 * (C : Int)) = false := by simp; omega
        have hle1 : decide ((N : Int) < h') = false := decide_eq_false (by omega)
        have hle2 : decide (N < h') = false := decide_eq_false (by omega)
        obtain ⟨bm, om, hame, hbm, hcm⟩ := hp2.mem.at' 0 (by rw [hZ]; omega)
        have q0 : w2.cell? ⟨P, 0, none⟩ = some (.slice (some ⟨bm, om, none⟩) Z t.km) := by rw [← hame, ← hZ]; exact (hp2.row.cell 0).trans (PV_0 t)
        have q4 : w2.cell? ⟨P, 4, none⟩ = some (.slice t.al N t.kl) := by rw [← hN]; exact (hp2.row.cell 4).trans (PV_4 t)
        have q5 : w2.cell? ⟨P, 5, none⟩ = some (.int .i64 d') := by rw [← hAt2.ed]; exact (hp2.row.cell 5).trans (PV_5 t)
        have q6 : w2.cell? ⟨P, 6, none⟩ = some (.int .i64 h') := by rw [← hAt2.eh]; exact (hp2.row.cell 6).trans (PV_6 t)
        have qP := hp2.row.lt
        have r0 : w2.cell? ⟨bm, om + B, none⟩ = some (.int .u64 h') := by rw [hcm B (by rw [hZ]; omega), hr.head]
        have r1 : w2.cell? ⟨bm, om + (B + 1), none⟩ = some (.int .u64 N) := by rw [hcm (B + 1) (by rw [hZ]; omega), hr.tail, List.length_map, hN]
        have r2 : w2.cell? ⟨bm, om + (B + 2), none⟩ = some (.int .u64 d') := by rw [hcm (B + 2) (by rw [hZ]; omega), hr.drops]
        have u0 : IntKind.u64.wrap (h' : Int) = h' := by rw [IntKind.wrap_u64]; omega
        have u1 : IntKind.u64.wrap (N : Int) = N := by rw [IntKind.wrap_u64]; omega
        have u2 : IntKind.u64.wrap (d' : Int) = d' := by rw [IntKind.wrap_u64]; omega
        have y0 : B < Z := by omega
        have y1 : B + 1 < Z := by omega
        have y2 : B + 2 < Z := by omega
        have y3 : (B : Int) < Z := by omega
        have y4 : (B : Int) + 1 < Z := by omega
        have y5 : (B : Int) + 2 < Z := by omega
        have z9 : Z ≤ 1000 := by omega
        replace hAt2 : Hid _ := hAt2
        clear hr hcm hZ hN hsum hame hnn' hle
        try clear hh'
        try clear hd'
        have hmq : ∀ x : Ext w2, Mr w x.u := fun x => hm2.trans x.h
        have hpq : ∀ x : Ext w2, Pin x.u P t := fun x => hp2.mr x.h
        replace hmq : Hid _ := hmq
        replace hpq : Hid _ := hpq
        clear hp2
        refine wp_region_ext (by kernel_rfl) (by kernel_rfl) ?_
        (repeat (go_big_quiet_step (fail)))
        refine wpQuiet_nil ?_
        rintro w3 ⟨x1, rfl⟩
        replace q0 := (Ext.cell x1 _ _ qP).trans q0
        replace q4 := (Ext.cell x1 _ _ qP).trans q4
        replace q5 := (Ext.cell x1 _ _ qP).trans q5
        replace q6 := (Ext.cell x1 _ _ qP).trans q6
        replace r0 := (Ext.cell x1 _ _ hbm).trans r0
        replace r1 := (Ext.cell x1 _ _ hbm).trans r1
        replace r2 := (Ext.cell x1 _ _ hbm).trans r2
        replace qP := Nat.lt_of_lt_of_le qP x1.h.below.size
        replace hbm := Nat.lt_of_lt_of_le hbm x1.h.below.size
        replace hmq := hmq.out x1
        replace hpq := hpq.out x1
        generalize x1.u = w3 at *
        clear x1 hm2
        replace hmq : Hid _ := hmq
        replace hpq : Hid _ := hpq
        go_upto_region 13 with (fail)
        refine wp_region_ext (by kernel_rfl) (by kernel_rfl) ?_
        (repeat (go_big_quiet_step (fail)))
        refine wpQuiet_nil ?_
        rintro w4 ⟨x2, rfl⟩
        go_wp2_with fail
        go_roundw
        case rel => exact ⟨i + 1, t, d', h', nn', _, _, by omega, by go_num, hpq.out.mr x2.h, hmq.out.trans x2.h, hni', hAt2⟩
        case measure => simp [intOf]; omega
      · go_upto_region 11 with (first | (go_at_call 20; refine (layer_c hC hB w _ hmr hPw hp hAt.out.b hAt.out.c hAt.out.en (by omega) hAt.out.ok hly hM0 hLb hsd hsh).mono ?_; rintro e w2 ⟨rfl, hm2, t, hp2, hg⟩))
        obtain ⟨d', nn', k', hAt2, hnn'⟩ := At.layed hC hB hN hAt.out hg
        have hni' : nn' ≤ i + 1 := by omega
        obtain ⟨h', hh'⟩ : ∃ h', h' = h := ⟨_, rfl⟩
        rw [← hh'] at hAt2
        clear hg htk hpp hh9 hly hsh hsd hM0 hLb hN hsum hAt hc1 hb1 hp hmr c81 lP hni
        have hr := hAt2.ring
        have hsum := hAt2.sum
        obtain ⟨Z, hZ⟩ : ∃ Z, t.M.length = Z := ⟨_, rfl⟩
        obtain ⟨N, hN⟩ : ∃ N, t.L.length = N := ⟨_, rfl⟩
        have hZe : Z = B + 3 + 6 * C := by rw [← hZ]; exact hr.len
        have hNb : N ≤ 1000 := by omega
        have hle : h' ≤ N := by have := hr.le; rw [List.length_map, hN] at this; exact this
        have hZd : ((Z : Int) != (B : Int) + 3 + 6 * (C : Int)) = false := by simp; omega
        have hle1 : decide ((N : Int) < h') = false := decide_eq_false (by omega)
        have hle2 : decide (N < h') = false := decide_eq_false (by omega)
        obtain ⟨bm, om, hame, hbm, hcm⟩ := hp2.mem.at' 0 (by rw [hZ]; omega)
        have q0 : w2.cell? ⟨P, 0, none⟩ = some (.slice (some ⟨bm, om, none⟩) Z t.km) := by rw [← hame, ← hZ]; exact (hp2.row.cell 0).trans (PV_0 t)
        have q4 : w2.cell? ⟨P, 4, none⟩ = some (.slice t.al N t.kl) := by rw [← hN]; exact (hp2.row.cell 4).trans (PV_4 t)
        have q5 : w2.cell? ⟨P, 5, none⟩ = some (.int .i64 d') := by rw [← hAt2.ed]; exact (hp2.row.cell 5).trans (PV_5 t)
        have q6 : w2.cell? ⟨P, 6, none⟩ = some (.int .i64 h') := by rw [← hAt2.eh]; exact (hp2.row.cell 6).trans (PV_6 t)
        have qP := hp2.row.lt
        have r0 : w2.cell? ⟨bm, om + B, none⟩ = some (.int .u64 h') := by rw [hcm B (by rw [hZ]; omega), hr.head]
        have r1 : w2.cell? ⟨bm, om + (B + 1), none⟩ = some (.int .u64 N) := by rw [hcm (B + 1) (by rw [hZ]; omega), hr.tail, List.length_map, hN]
        have r2 : w2.cell? ⟨bm, om + (B + 2), none⟩ = some (.int .u64 d') := by rw [hcm (B + 2) (by rw [hZ]; omega), hr.drops]
        have u0 : IntKind.u64.wrap (h' : Int) = h' := by rw [IntKind.wrap_u64]; omega
        have u1 : IntKind.u64.wrap (N : Int) = N := by rw [IntKind.wrap_u64]; omega
        have u2 : IntKind.u64.wrap (d' : Int) = d' := by rw [IntKind.wrap_u64]; omega
        have y0 : B < Z := by omega
        have y1 : B + 1 < Z := by omega
        have y2 : B + 2 < Z := by omega
        have y3 : (B : Int) < Z := by omega
        have y4 : (B : Int) + 1 < Z := by omega
        have y5 : (B : Int) + 2 < Z := by omega
        have z9 : Z ≤ 1000 := by omega
        replace hAt2 : Hid _ := hAt2
        clear hr hcm hZ hN hsum hame hnn' hle
        try clear hh'
        try clear hd'
        have hmq : ∀ x : Ext w2, Mr w x.u := fun x => hm2.trans x.h
        have hpq : ∀ x : Ext w2, Pin x.u P t := fun x => hp2.mr x.h
        replace hmq : Hid _ := hmq
        replace hpq : Hid _ := hpq
        clear hp2
        refine wp_region_ext (by kernel_rfl) (by kernel_rfl) ?_
        (repeat (go_big_quiet_step (fail)))
        refine wpQuiet_nil ?_
        rintro w3 ⟨x1, rfl⟩
        replace q0 := (Ext.cell x1 _ _ qP).trans q0
        replace q4 := (Ext.cell x1 _ _ qP).trans q4
        replace q5 := (Ext.cell x1 _ _ qP).trans q5
        replace q6 := (Ext.cell x1 _ _ qP).trans q6
        replace r0 := (Ext.cell x1 _ _ hbm).trans r0
        replace r1 := (Ext.cell x1 _ _ hbm).trans r1
        replace r2 := (Ext.cell x1 _ _ hbm).trans r2
        replace qP := Nat.lt_of_lt_of_le qP x1.h.below.size
        replace hbm := Nat.lt_of_lt_of_le hbm x1.h.below.size
        replace hmq := hmq.out x1
        replace hpq := hpq.out x1
        generalize x1.u = w3 at *
        clear x1 hm2
        replace hmq : Hid _ := hmq
        replace hpq : Hid _ := hpq
        go_upto_region 13 with (fail)
        refine wp_region_ext (by kernel_rfl) (by kernel_rfl) ?_
        (repeat (go_big_quiet_step (fail)))
        refine wpQuiet_nil ?_
        rintro w4 ⟨x2, rfl⟩
        go_wp2_with fail
        go_roundw
        case rel => exact ⟨i + 1, t, d', h', nn', _, _, by omega, by go_num, hpq.out.mr x2.h, hmq.out.trans x2.h, hni', hAt2⟩
        case measure => simp [intOf]; omega
    · obtain rfl : i = n2 := by omega
      go_wp2
      go_ret; exact ⟨rfl, Mr.grown (by repeat (first | (with_reducible exact Mr.refl _) | (with_reducible assumption) | (with_reducible apply Mr.drew) | (with_reducible apply Mr.alloc) | (with_reducible apply Mr.ext) | (with_reducible refine Mr.setCell ?_ (by first | (simp; done) | (simp; omega) | omega | (refine leOf0 ?_; (repeat (first | (with_reducible exact Mr.refl _) | (with_reducible apply Mr.drew) | (with_reducible apply Mr.alloc) | (with_reducible apply Mr.ext) | (with_reducible refine Mr.setCell ?_ (by first | (simp; done) | (simp; omega) | omega) _))); done) | (refine leOf ?_; (repeat (first | (with_reducible exact Mr.refl _) | (with_reducible apply Mr.drew) | (with_reducible apply Mr.alloc) | (with_reducible apply Mr.ext) | (with_reducible refine Mr.setCell ?_ (by first | (simp; done) | (simp; omega) | omega) _))); done)) _)))⟩

set_option maxRecDepth 100000 in
theorem lifted (os : Os) (started : os.Started) (H : Type) (enc : TypeId × Value → H) :
    ReturnsInHanded {} Try.checked os 4 .any (Rows.ringTurnsSpec.pre6 enc Try.prog Try.f4 Rows.ringTurnsRow.domain false) (Rows.ringTurnsSpec.post enc Try.prog Try.f4 false true false false) := by
  refine returnsInHanded_of_change (C := Try.checked) own started (by kernel_rfl) Try.func4
    (ChangeSpec.witness6 (enc := enc) (C := Try.checked) false ⟨#[], #[.int .i64 0, .int .i64 0, .slice none 0 0], []⟩ 8 (by kernel_rfl) (by kernel_rfl) (by kernel_rfl) (by kernel_rfl)) ?_
  intro W base args ds gs before hval0 hW hcnd _
  have hval : ∀ (j : Nat) t v, Try.f4.params[j]? = some t → args[j]? = some v → Value.okWide Try.prog W .any base t v := hval0
  have hW' := hW
  obtain ⟨p, q, hA0, hV, rfl, hfz, hnd⟩ := hW
  have hA : DataW.TrodAll enc Try.prog W 0 (fun _ => true) true Try.f4.params.toList args.toList ds p := hA0
  rw [Try.params4] at hA hval
  obtain ⟨v0, vs0, d0, ds0, p_0, q_0, hargs, rfl, rfl, h0, r0⟩ := trodAll_cons hA
  obtain ⟨v1, vs1, d1, ds1, p_1, q_1, rfl, rfl, rfl, h1, r1⟩ := trodAll_cons r0
  obtain ⟨v2, vs2, d2, ds2, p_2, q_2, rfl, rfl, rfl, h2, r2⟩ := trodAll_cons r1
  obtain ⟨rfl, rfl, rfl⟩ := trodAll_nil r2
  obtain rfl : args = #[v0, v1, v2] := by cases args; simp_all
  obtain ⟨rfl, rfl⟩ := trodVars_none hV
  obtain ⟨a0, rfl, rfl, rfl, w0⟩ := open_int Try.underlying3 (hval 0 3 v0 rfl rfl) h0
  obtain ⟨a1, rfl, rfl, rfl, w1⟩ := open_int Try.underlying3 (hval 1 3 v1 rfl rfl) h1
  obtain ⟨s2, n2, c2, rfl⟩ := okWide_slice Try.underlying37 (hval 2 37 v2 rfl rfl)
  have k2 := h2
  have lt2 : ∀ x ∈ p_2, x.block < W.heap.size := by obtain ⟨m, hm⟩ := k2; exact DataW.trod_lt m _ _ _ hm
  have w2 := Bl.open_bools h2
  clear hA0 hval0
  refine (walk a0 a1 s2 n2 c2 W w0 w1 w2).mono fun e W' ⟨he, bel⟩ => ?_
  subst he
  exact ⟨_, rfl, _, _, _, [], _, [], hW', trodAll_mk1 (shut_bool Try.underlying4 _), (trodAll_cons_mk (shut_int Try.underlying3 w0) (trodAll_cons_mk (shut_int Try.underlying3 w1) (trodAll_cons_mk (Below.trod laidOut (by kernel_rfl) (of_decide_eq_true (by kernel_rfl)) k2 bel lt2) trodAll_mk0))), rfl, bel.frame _, fun h => by cases h⟩

theorem over : Rows.ringTurnsRow.holds Try.pinned (OpenSpec.ofChange Rows.ringTurnsSpec) :=
  OpenClaim.holds_of_wide 4 Try.f4 rfl rfl rfl rfl rfl rfl rfl ⟨rfl, rfl, rfl, rfl, rfl⟩ rfl rfl rfl rfl rfl (by kernel_rfl) Try.func4 (by kernel_rfl)
    (of_decide_eq_true (by kernel_rfl)) (by unfold Func.isWrapper; first | (rw [if_pos (by decide +kernel)]; kernel_rfl) | (rw [if_neg (by decide +kernel)]; exact ⟨rfl, rfl⟩))
    (fun os started H enc _ => lifted os started H enc)

theorem proved : Rows.RingTurnsSaid :=
  over
#print axioms proved
end Go.Proofs.Ytnbejkhcifeeiaa.ringTurns
