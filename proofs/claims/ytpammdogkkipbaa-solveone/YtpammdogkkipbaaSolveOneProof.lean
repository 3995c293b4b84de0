/- For every list of ints the law SolveOne answers true: what solves the one is the column itself, what solves twice the one is half of it, rounded. No condition. -/
import Derived.Test.YtpammdogkkipbaaRows
import Derived.WalkKit
import Derived.ProofKit
import Derived.OpenShut
import Derived.ShutString
import Derived.ChangeOld
import Derived.Below
import Derived.Test.YtpammdogkkipbaaMatR
import Derived.Test.YtpammdogkkipbaaSolveC2
import Derived.Test.YtpammdogkkipbaaMatC3
namespace Go.Proofs.Ytpammdogkkipbaa.solveOne
open Go.ChangeShapes Go.WideShapes Go.ChangeAt Go.RowKit
set_option linter.unusedVariables false
theorem own : ownKnob Try.prog.godebug = none := by kernel_rfl
theorem laidOut : laidOutB Try.prog = true := by kernel_rfl

open Go.Proofs.Ytpammdogkkipbaa.Fx Go.Proofs.Ytpammdogkkipbaa.Sl Go.Proofs.Ytpammdogkkipbaa.Sm Go.Proofs.Ytpammdogkkipbaa.Ma Go.Proofs.Ytpammdogkkipbaa.Sv Go.Proofs.Ytpammdogkkipbaa.Sc
attribute [local go_sem] Ext.cell Ext.froz Ext.lt Ext.lt1 Ext.lt2 Ext.lt3 Ext.all Ext.set_u drew_heap setCell_size Ext.set_size
theorem two_dg {n : Nat} (h1 : 1 ≤ n) (h6 : n ≤ 6) : addL (oneL n) (oneL n) = dg n (fun _ => 8589934592) := by
  have hs : Sl.sq (oneL n) = true := by rw [oneL_mat h1 h6]; exact sq_mat _ h1 h6
  have hl : (oneL n).length = n := by rw [oneL_mat h1 h6, mat_length]
  rw [add_mat ((ok2_iff _ _).2 ⟨hs, hs, rfl⟩), hl]
  unfold dg
  refine mat_congr (fun i j hi hj => ?_)
  rw [oneL_mat h1 h6, en_mat _ hi hj]
  by_cases e : j = i
  · rw [if_pos e, if_pos e]; exact (by decide : av 4294967296 4294967296 = 8589934592)
  · rw [if_neg e, if_neg e]; decide
theorem one_dg {n : Nat} (h1 : 1 ≤ n) (h6 : n ≤ 6) : oneL n = dg n (fun _ => 4294967296) := by rw [oneL_mat h1 h6]; rfl
theorem s_one {n : Nat} (h1 : 1 ≤ n) (h6 : n ≤ 6) {v : List Int} (ev : v.length = n) (hv : ∀ i, i < n → -288230376151711744 ≤ gt v i ∧ gt v i ≤ 288230376151711744) : solO (oneL n) v = true ∧ solX (oneL n) v = v := by
  rw [one_dg h1 h6]
  obtain ⟨k1, k2⟩ := alone_sol (d := fun _ => 4294967296) h1 h6 ev
  have hO := k1.2 (fun i hi => ⟨(qv_by (hv i hi)).1.1, by decide⟩)
  refine ⟨hO, ?_⟩
  rw [k2 hO]
  refine list_eq (by rw [mk_length, ev]) (fun j hj => ?_)
  rw [mk_length] at hj
  rw [gt_mk, if_pos hj]
  exact (qv_by (hv j hj)).1.2
theorem s_two {n : Nat} (h1 : 1 ≤ n) (h6 : n ≤ 6) {v : List Int} (ev : v.length = n) (hv : ∀ i, i < n → -288230376151711744 ≤ gt v i ∧ gt v i ≤ 288230376151711744) : solO (addL (oneL n) (oneL n)) v = true ∧ (solX (addL (oneL n) (oneL n)) v).length = n ∧ ∀ i, i < n → (2 * gt (solX (addL (oneL n) (oneL n)) v) i = gt v i ∨ 2 * gt (solX (addL (oneL n) (oneL n)) v) i = gt v i + 1) := by
  rw [two_dg h1 h6]
  obtain ⟨k1, k2⟩ := alone_sol (d := fun _ => 8589934592) h1 h6 ev
  have hO := k1.2 (fun i hi => ⟨(qv_by (hv i hi)).2.1, by decide⟩)
  refine ⟨hO, by rw [k2 hO, mk_length], fun i hi => ?_⟩
  rw [k2 hO, gt_mk, if_pos hi]
  exact (qv_by (hv i hi)).2.2
theorem two_len {n : Nat} (h1 : 1 ≤ n) (h6 : n ≤ 6) : (addL (oneL n) (oneL n)).length = n := by rw [two_dg h1 h6]; exact mat_length _ _
theorem one_len {n : Nat} (h1 : 1 ≤ n) (h6 : n ≤ 6) : (oneL n).length = n := by rw [oneL_mat h1 h6, mat_length]
set_option maxHeartbeats 4000000 in
set_option maxRecDepth 100000 in
theorem walk1 (s0 : Option Addr) (n0 c0 K : Nat) (w : World) {v : List Int} (eV : v.length = K) (hV : Is w s0 c0 v) (h9 : n0 ≤ 9223372036854775807) (hc : n0 ≤ c0) (hKm : (n0 ≤ 6 ∧ K = n0) ∨ (6 < n0 ∧ K = 6)) (h1 : 1 ≤ K) :
    Calls Try.prog 7 #[.slice s0 n0 c0] w fun e w' => e = .returned (.bool true) ∧ Below w.heap.size w w' := by
  have h6 : K ≤ 6 := by omega
  have eO := one_len h1 h6
  have eT := two_len h1 h6
  have t1 : Unit := ()
  have hK1 : ¬ (K : Int) < 1 := by omega
  have hKc : (K : Int) ≤ c0 := by omega
  have hKc' : K ≤ c0 := by omega
  go_enter Try.func7, Try.ntmps7
  go_upto_region 2 with (first | (go_at_call 8; refine (awake10_c _).mono ?_; rintro e w' ⟨rfl, x, rfl⟩))
  go_cut [4] (fun v wx => v = .int .i64 (K : Int) ∧ wx = x.u)
  case first =>
    rcases hKm with ⟨hk, hk2⟩ | ⟨hk, hk2⟩
    · have hk' : ¬ (6 : Int) < n0 := by omega
      have hk'' : (n0 : Int) ≤ 6 := by omega
      clear hV eO eT
      go_wp2_with fail
      go_meet
      case rel => exact ⟨by rw [hk2], rfl⟩
    · have hk' : (6 : Int) < n0 := by omega
      have hk'' : ¬ (n0 : Int) ≤ 6 := by omega
      clear hV eO eT
      go_wp2_with fail
      go_meet
      case rel => exact ⟨by rw [hk2]; rfl, rfl⟩
  case rest =>
    obtain ⟨rfl, rfl⟩ := hcut
    clear hKm
    go_wp2_with (first | (go_at_call 18; refine Calls.mono (mone_u _ _) ?_; rintro e w' ⟨aO, cO, rfl, x, rfl, hO⟩; rw [eO]) | (go_at_call 21; refine Calls.mono (madd_u (hO.mr (by repeat (first | (with_reducible exact Mr.refl _) | (with_reducible assumption) | (with_reducible apply Mr.drew) | (with_reducible apply Mr.alloc) | (with_reducible apply Mr.ext) | (with_reducible refine Mr.setCell ?_ (by first | (simp; done) | (simp; omega) | omega | (refine leOf0 ?_; (repeat (first | (with_reducible exact Mr.refl _) | (with_reducible apply Mr.drew) | (with_reducible apply Mr.alloc) | (with_reducible apply Mr.ext) | (with_reducible refine Mr.setCell ?_ (by first | (simp; done) | (simp; omega) | omega) _))); done) | (refine leOf ?_; (repeat (first | (with_reducible exact Mr.refl _) | (with_reducible apply Mr.drew) | (with_reducible apply Mr.alloc) | (with_reducible apply Mr.ext) | (with_reducible refine Mr.setCell ?_ (by first | (simp; done) | (simp; omega) | omega) _))); done)) _)))) eO (hO.mr (by repeat (first | (with_reducible exact Mr.refl _) | (with_reducible assumption) | (with_reducible apply Mr.drew) | (with_reducible apply Mr.alloc) | (with_reducible apply Mr.ext) | (with_reducible refine Mr.setCell ?_ (by first | (simp; done) | (simp; omega) | omega | (refine leOf0 ?_; (repeat (first | (with_reducible exact Mr.refl _) | (with_reducible apply Mr.drew) | (with_reducible apply Mr.alloc) | (with_reducible apply Mr.ext) | (with_reducible refine Mr.setCell ?_ (by first | (simp; done) | (simp; omega) | omega) _))); done) | (refine leOf ?_; (repeat (first | (with_reducible exact Mr.refl _) | (with_reducible apply Mr.drew) | (with_reducible apply Mr.alloc) | (with_reducible apply Mr.ext) | (with_reducible refine Mr.setCell ?_ (by first | (simp; done) | (simp; omega) | omega) _))); done)) _)))) eO) ?_; rintro e w' ⟨aT, cT, rfl, x, rfl, hT⟩; rw [eT]))
    have hO' := hO.mr (w' := x.u) (by repeat (first | (with_reducible exact Mr.refl _) | (with_reducible assumption) | (with_reducible apply Mr.drew) | (with_reducible apply Mr.alloc) | (with_reducible apply Mr.ext) | (with_reducible refine Mr.setCell ?_ (by first | (simp; done) | (simp; omega) | omega | (refine leOf0 ?_; (repeat (first | (with_reducible exact Mr.refl _) | (with_reducible apply Mr.drew) | (with_reducible apply Mr.alloc) | (with_reducible apply Mr.ext) | (with_reducible refine Mr.setCell ?_ (by first | (simp; done) | (simp; omega) | omega) _))); done) | (refine leOf ?_; (repeat (first | (with_reducible exact Mr.refl _) | (with_reducible apply Mr.drew) | (with_reducible apply Mr.alloc) | (with_reducible apply Mr.ext) | (with_reducible refine Mr.setCell ?_ (by first | (simp; done) | (simp; omega) | omega) _))); done)) _)))
    have hT' := hT.mr (w' := x.u) (by repeat (first | (with_reducible exact Mr.refl _) | (with_reducible assumption) | (with_reducible apply Mr.drew) | (with_reducible apply Mr.alloc) | (with_reducible apply Mr.ext) | (with_reducible refine Mr.setCell ?_ (by first | (simp; done) | (simp; omega) | omega | (refine leOf0 ?_; (repeat (first | (with_reducible exact Mr.refl _) | (with_reducible apply Mr.drew) | (with_reducible apply Mr.alloc) | (with_reducible apply Mr.ext) | (with_reducible refine Mr.setCell ?_ (by first | (simp; done) | (simp; omega) | omega) _))); done) | (refine leOf ?_; (repeat (first | (with_reducible exact Mr.refl _) | (with_reducible apply Mr.drew) | (with_reducible apply Mr.alloc) | (with_reducible apply Mr.ext) | (with_reducible refine Mr.setCell ?_ (by first | (simp; done) | (simp; omega) | omega) _))); done)) _)))
    have hmw : Mr w x.u := (by repeat (first | (with_reducible exact Mr.refl _) | (with_reducible assumption) | (with_reducible apply Mr.drew) | (with_reducible apply Mr.alloc) | (with_reducible apply Mr.ext) | (with_reducible refine Mr.setCell ?_ (by first | (simp; done) | (simp; omega) | omega | (refine leOf0 ?_; (repeat (first | (with_reducible exact Mr.refl _) | (with_reducible apply Mr.drew) | (with_reducible apply Mr.alloc) | (with_reducible apply Mr.ext) | (with_reducible refine Mr.setCell ?_ (by first | (simp; done) | (simp; omega) | omega) _))); done) | (refine leOf ?_; (repeat (first | (with_reducible exact Mr.refl _) | (with_reducible apply Mr.drew) | (with_reducible apply Mr.alloc) | (with_reducible apply Mr.ext) | (with_reducible refine Mr.setCell ?_ (by first | (simp; done) | (simp; omega) | omega) _))); done)) _)))
    clear hO hT
    have hO := hO'
    have hT := hT'
    clear hO' hT'
    generalize x.u = W0 at *
    replace hV := hV.mr hmw
    go_loopw [9] (fun k wr => ∃ j : Nat, j ≤ K ∧ k = .int .i64 j ∧ wr = W0 ∧ Hid (∀ i, i < j → -288230376151711744 ≤ gt v i ∧ gt v i ≤ 288230376151711744)) (fun k _ => (K - (intOf k).toNat))
    case atStart => exact ⟨0, by omega, rfl, rfl, fun i hi => by omega⟩
    case round =>
      obtain ⟨j, hj, rfl, rfl, HB⟩ := hrel
      by_cases hlt : j < K
      · have hlt' : (j : Int) < K := by omega
        obtain ⟨b, o, rfl, hb, hcv⟩ := hV.num j (by omega)
        have HN : Hid (-288230376151711744 ≤ gt v j → gt v j ≤ 288230376151711744 → ∀ i, i < j + 1 → -288230376151711744 ≤ gt v i ∧ gt v i ≤ 288230376151711744) := fun q1 q2 i hi => by
          rcases Nat.lt_or_ge i j with g | g
          · exact HB.out i g
          · obtain rfl : i = j := (by omega)
            exact ⟨q1, q2⟩
        generalize gt v j = V at *
        clear hV hO hT eO eT
        by_cases v1 : 288230376151711744 < V
        · go_wp2
          go_ret
          exact ⟨rfl, hmw.grown⟩
        · by_cases v2 : V < -288230376151711744
          · go_wp2
            go_ret
            exact ⟨rfl, hmw.grown⟩
          · go_wp2
            go_roundw
            case rel => exact ⟨j + 1, by omega, by go_num, by first | rfl | trivial, HN.out (by omega) (by omega)⟩
            case measure => simp [intOf]; omega
      · obtain rfl : j = K := by omega
        obtain ⟨oX, eX⟩ := s_one h1 h6 eV (fun i hi => HB.out i hi)
        obtain ⟨oY, lY, h2⟩ := s_two h1 h6 eV (fun i hi => HB.out i hi)
        have lX := eV
        have lX' := eV
        obtain ⟨Y, eY⟩ : ∃ Y, solX (addL (oneL j) (oneL j)) v = Y := ⟨_, rfl⟩
        rw [eY] at lY h2
        clear hlt hj
        go_wp2_with (first | (go_at_call 12; (have := t1; clear this t1); refine Calls.mono (ssolve_u (hO.mr (by repeat (first | (with_reducible exact Mr.refl _) | (with_reducible assumption) | (with_reducible apply Mr.drew) | (with_reducible apply Mr.alloc) | (with_reducible apply Mr.ext) | (with_reducible refine Mr.setCell ?_ (by first | (simp; done) | (simp; omega) | omega | (refine leOf0 ?_; (repeat (first | (with_reducible exact Mr.refl _) | (with_reducible apply Mr.drew) | (with_reducible apply Mr.alloc) | (with_reducible apply Mr.ext) | (with_reducible refine Mr.setCell ?_ (by first | (simp; done) | (simp; omega) | omega) _))); done) | (refine leOf ?_; (repeat (first | (with_reducible exact Mr.refl _) | (with_reducible apply Mr.drew) | (with_reducible apply Mr.alloc) | (with_reducible apply Mr.ext) | (with_reducible refine Mr.setCell ?_ (by first | (simp; done) | (simp; omega) | omega) _))); done)) _)))) eO (hV.mr (by repeat (first | (with_reducible exact Mr.refl _) | (with_reducible assumption) | (with_reducible apply Mr.drew) | (with_reducible apply Mr.alloc) | (with_reducible apply Mr.ext) | (with_reducible refine Mr.setCell ?_ (by first | (simp; done) | (simp; omega) | omega | (refine leOf0 ?_; (repeat (first | (with_reducible exact Mr.refl _) | (with_reducible apply Mr.drew) | (with_reducible apply Mr.alloc) | (with_reducible apply Mr.ext) | (with_reducible refine Mr.setCell ?_ (by first | (simp; done) | (simp; omega) | omega) _))); done) | (refine leOf ?_; (repeat (first | (with_reducible exact Mr.refl _) | (with_reducible apply Mr.drew) | (with_reducible apply Mr.alloc) | (with_reducible apply Mr.ext) | (with_reducible refine Mr.setCell ?_ (by first | (simp; done) | (simp; omega) | omega) _))); done)) _)))) eV) ?_; rintro e w' ⟨aX, cX, rfl, x, rfl, hX⟩; rw [eX, oX, lX]; rw [eX] at hX) | (go_at_call 12; refine Calls.mono (ssolve_u (hT.mr (by repeat (first | (with_reducible exact Mr.refl _) | (with_reducible assumption) | (with_reducible apply Mr.drew) | (with_reducible apply Mr.alloc) | (with_reducible apply Mr.ext) | (with_reducible refine Mr.setCell ?_ (by first | (simp; done) | (simp; omega) | omega | (refine leOf0 ?_; (repeat (first | (with_reducible exact Mr.refl _) | (with_reducible apply Mr.drew) | (with_reducible apply Mr.alloc) | (with_reducible apply Mr.ext) | (with_reducible refine Mr.setCell ?_ (by first | (simp; done) | (simp; omega) | omega) _))); done) | (refine leOf ?_; (repeat (first | (with_reducible exact Mr.refl _) | (with_reducible apply Mr.drew) | (with_reducible apply Mr.alloc) | (with_reducible apply Mr.ext) | (with_reducible refine Mr.setCell ?_ (by first | (simp; done) | (simp; omega) | omega) _))); done)) _)))) eT (hV.mr (by repeat (first | (with_reducible exact Mr.refl _) | (with_reducible assumption) | (with_reducible apply Mr.drew) | (with_reducible apply Mr.alloc) | (with_reducible apply Mr.ext) | (with_reducible refine Mr.setCell ?_ (by first | (simp; done) | (simp; omega) | omega | (refine leOf0 ?_; (repeat (first | (with_reducible exact Mr.refl _) | (with_reducible apply Mr.drew) | (with_reducible apply Mr.alloc) | (with_reducible apply Mr.ext) | (with_reducible refine Mr.setCell ?_ (by first | (simp; done) | (simp; omega) | omega) _))); done) | (refine leOf ?_; (repeat (first | (with_reducible exact Mr.refl _) | (with_reducible apply Mr.drew) | (with_reducible apply Mr.alloc) | (with_reducible apply Mr.ext) | (with_reducible refine Mr.setCell ?_ (by first | (simp; done) | (simp; omega) | omega) _))); done)) _)))) eV) ?_; rintro e w' ⟨aY, cY, rfl, x, rfl, hY⟩; rw [eY, oY, lY]; rw [eY] at hY))
        have hX' := hX.mr (w' := x.u) (by repeat (first | (with_reducible exact Mr.refl _) | (with_reducible assumption) | (with_reducible apply Mr.drew) | (with_reducible apply Mr.alloc) | (with_reducible apply Mr.ext) | (with_reducible refine Mr.setCell ?_ (by first | (simp; done) | (simp; omega) | omega | (refine leOf0 ?_; (repeat (first | (with_reducible exact Mr.refl _) | (with_reducible apply Mr.drew) | (with_reducible apply Mr.alloc) | (with_reducible apply Mr.ext) | (with_reducible refine Mr.setCell ?_ (by first | (simp; done) | (simp; omega) | omega) _))); done) | (refine leOf ?_; (repeat (first | (with_reducible exact Mr.refl _) | (with_reducible apply Mr.drew) | (with_reducible apply Mr.alloc) | (with_reducible apply Mr.ext) | (with_reducible refine Mr.setCell ?_ (by first | (simp; done) | (simp; omega) | omega) _))); done)) _)))
        have hY' := hY.mr (w' := x.u) (by repeat (first | (with_reducible exact Mr.refl _) | (with_reducible assumption) | (with_reducible apply Mr.drew) | (with_reducible apply Mr.alloc) | (with_reducible apply Mr.ext) | (with_reducible refine Mr.setCell ?_ (by first | (simp; done) | (simp; omega) | omega | (refine leOf0 ?_; (repeat (first | (with_reducible exact Mr.refl _) | (with_reducible apply Mr.drew) | (with_reducible apply Mr.alloc) | (with_reducible apply Mr.ext) | (with_reducible refine Mr.setCell ?_ (by first | (simp; done) | (simp; omega) | omega) _))); done) | (refine leOf ?_; (repeat (first | (with_reducible exact Mr.refl _) | (with_reducible apply Mr.drew) | (with_reducible apply Mr.alloc) | (with_reducible apply Mr.ext) | (with_reducible refine Mr.setCell ?_ (by first | (simp; done) | (simp; omega) | omega) _))); done)) _)))
        have hm2 : Mr w x.u := hmw.trans (by repeat (first | (with_reducible exact Mr.refl _) | (with_reducible assumption) | (with_reducible apply Mr.drew) | (with_reducible apply Mr.alloc) | (with_reducible apply Mr.ext) | (with_reducible refine Mr.setCell ?_ (by first | (simp; done) | (simp; omega) | omega | (refine leOf0 ?_; (repeat (first | (with_reducible exact Mr.refl _) | (with_reducible apply Mr.drew) | (with_reducible apply Mr.alloc) | (with_reducible apply Mr.ext) | (with_reducible refine Mr.setCell ?_ (by first | (simp; done) | (simp; omega) | omega) _))); done) | (refine leOf ?_; (repeat (first | (with_reducible exact Mr.refl _) | (with_reducible apply Mr.drew) | (with_reducible apply Mr.alloc) | (with_reducible apply Mr.ext) | (with_reducible refine Mr.setCell ?_ (by first | (simp; done) | (simp; omega) | omega) _))); done)) _)))
        have hV2 := hV.mr (w' := x.u) (by repeat (first | (with_reducible exact Mr.refl _) | (with_reducible assumption) | (with_reducible apply Mr.drew) | (with_reducible apply Mr.alloc) | (with_reducible apply Mr.ext) | (with_reducible refine Mr.setCell ?_ (by first | (simp; done) | (simp; omega) | omega | (refine leOf0 ?_; (repeat (first | (with_reducible exact Mr.refl _) | (with_reducible apply Mr.drew) | (with_reducible apply Mr.alloc) | (with_reducible apply Mr.ext) | (with_reducible refine Mr.setCell ?_ (by first | (simp; done) | (simp; omega) | omega) _))); done) | (refine leOf ?_; (repeat (first | (with_reducible exact Mr.refl _) | (with_reducible apply Mr.drew) | (with_reducible apply Mr.alloc) | (with_reducible apply Mr.ext) | (with_reducible refine Mr.setCell ?_ (by first | (simp; done) | (simp; omega) | omega) _))); done)) _)))
        clear hX hY hV hO hT
        generalize x.u = W1 at *
        go_loopw [14] (fun k wr => ∃ q : Nat, q ≤ j ∧ k = .int .i64 q ∧ ∃ y : Ext W1, wr = y.u) (fun k _ => (j - (intOf k).toNat))
        case atStart => exact ⟨0, by omega, rfl, Mr.mk' (Mr.refl _)⟩
        case round =>
          obtain ⟨q, hq, rfl, y, rfl⟩ := hrel
          by_cases hqt : q < j
          · have hqt' : (q : Int) < j := by omega
            have hg0 : decide ((j : Int) ≤ q) = false := decide_eq_false (by omega)
            have hg1 : decide (j ≤ q) = false := decide_eq_false (by omega)
            obtain ⟨b, o, rfl, hb, hcv⟩ := hV2.num q (by omega)
            obtain ⟨b2, o2, rfl, hb2, hcy⟩ := hY'.num q (by omega)
            have hv := HB.out q hqt
            have h2q := h2 q hqt
            generalize gt v q = V at *
            generalize gt Y q = P at *
            have hP : -288230376151711744 ≤ P ∧ P ≤ 288230376151711744 := by omega
            clear hV2 hX' hY' HB h2 eX eY oX oY lX lX' lY eO eT
            rcases h2q with g | g
            · have g1 : (2 * P == V) = true := by rw [g]; exact beq_self_eq_true _
              go_wp2
              refine wp_region_ext (by kernel_rfl) (by kernel_rfl) ?_; (repeat (go_big_quiet_step (fail))); refine wpQuiet_nil ?_; rintro w9 ⟨x9, rfl⟩
              go_wp2
              go_roundw
              case rel => exact ⟨q + 1, by omega, by go_num, Mr.mk' (by repeat (first | (with_reducible exact Mr.refl _) | (with_reducible assumption) | (with_reducible apply Mr.drew) | (with_reducible apply Mr.alloc) | (with_reducible apply Mr.ext) | (with_reducible refine Mr.setCell ?_ (by first | (simp; done) | (simp; omega) | omega | (refine leOf0 ?_; (repeat (first | (with_reducible exact Mr.refl _) | (with_reducible apply Mr.drew) | (with_reducible apply Mr.alloc) | (with_reducible apply Mr.ext) | (with_reducible refine Mr.setCell ?_ (by first | (simp; done) | (simp; omega) | omega) _))); done) | (refine leOf ?_; (repeat (first | (with_reducible exact Mr.refl _) | (with_reducible apply Mr.drew) | (with_reducible apply Mr.alloc) | (with_reducible apply Mr.ext) | (with_reducible refine Mr.setCell ?_ (by first | (simp; done) | (simp; omega) | omega) _))); done)) _)))⟩
              case measure => simp [intOf]; omega
            · have g1 : (2 * P == V) = false := beq_eq_false_iff_ne.2 (by omega)
              have g2 : (2 * P == V + 1) = true := by rw [g]; exact beq_self_eq_true _
              have g3 : ¬ 2 * P = V := by omega
              have g4 : (!(2 * P == V)) = true := by rw [g1]; rfl
              have g5 : (2 * P != V) = true := by unfold bne; rw [g1]; rfl
              clear g
              go_wp2
              refine wp_region_ext (by kernel_rfl) (by kernel_rfl) ?_; (repeat (go_big_quiet_step (fail))); refine wpQuiet_nil ?_; rintro w9 ⟨x9, rfl⟩
              go_wp2
              go_roundw
              case rel => exact ⟨q + 1, by omega, by go_num, Mr.mk' (by repeat (first | (with_reducible exact Mr.refl _) | (with_reducible assumption) | (with_reducible apply Mr.drew) | (with_reducible apply Mr.alloc) | (with_reducible apply Mr.ext) | (with_reducible refine Mr.setCell ?_ (by first | (simp; done) | (simp; omega) | omega | (refine leOf0 ?_; (repeat (first | (with_reducible exact Mr.refl _) | (with_reducible apply Mr.drew) | (with_reducible apply Mr.alloc) | (with_reducible apply Mr.ext) | (with_reducible refine Mr.setCell ?_ (by first | (simp; done) | (simp; omega) | omega) _))); done) | (refine leOf ?_; (repeat (first | (with_reducible exact Mr.refl _) | (with_reducible apply Mr.drew) | (with_reducible apply Mr.alloc) | (with_reducible apply Mr.ext) | (with_reducible refine Mr.setCell ?_ (by first | (simp; done) | (simp; omega) | omega) _))); done)) _)))⟩
              case measure => simp [intOf]; omega
          · obtain rfl : q = j := by omega
            have hX := hX'
            clear hY'
            go_wp2_with (first | (go_at_call 15; refine (rints_c _ (hX.mr (by repeat (first | (with_reducible exact Mr.refl _) | (with_reducible assumption) | (with_reducible apply Mr.drew) | (with_reducible apply Mr.alloc) | (with_reducible apply Mr.ext) | (with_reducible refine Mr.setCell ?_ (by first | (simp; done) | (simp; omega) | omega | (refine leOf0 ?_; (repeat (first | (with_reducible exact Mr.refl _) | (with_reducible apply Mr.drew) | (with_reducible apply Mr.alloc) | (with_reducible apply Mr.ext) | (with_reducible refine Mr.setCell ?_ (by first | (simp; done) | (simp; omega) | omega) _))); done) | (refine leOf ?_; (repeat (first | (with_reducible exact Mr.refl _) | (with_reducible apply Mr.drew) | (with_reducible apply Mr.alloc) | (with_reducible apply Mr.ext) | (with_reducible refine Mr.setCell ?_ (by first | (simp; done) | (simp; omega) | omega) _))); done)) _)))) lX' (hV2.mr (by repeat (first | (with_reducible exact Mr.refl _) | (with_reducible assumption) | (with_reducible apply Mr.drew) | (with_reducible apply Mr.alloc) | (with_reducible apply Mr.ext) | (with_reducible refine Mr.setCell ?_ (by first | (simp; done) | (simp; omega) | omega | (refine leOf0 ?_; (repeat (first | (with_reducible exact Mr.refl _) | (with_reducible apply Mr.drew) | (with_reducible apply Mr.alloc) | (with_reducible apply Mr.ext) | (with_reducible refine Mr.setCell ?_ (by first | (simp; done) | (simp; omega) | omega) _))); done) | (refine leOf ?_; (repeat (first | (with_reducible exact Mr.refl _) | (with_reducible apply Mr.drew) | (with_reducible apply Mr.alloc) | (with_reducible apply Mr.ext) | (with_reducible refine Mr.setCell ?_ (by first | (simp; done) | (simp; omega) | omega) _))); done)) _)))) eV).mono ?_; rw [decide_eq_true rfl]; rintro e w' ⟨rfl, x, rfl⟩))
            go_ret
            exact ⟨rfl, Mr.grown (hm2.trans (by repeat (first | (with_reducible exact Mr.refl _) | (with_reducible assumption) | (with_reducible apply Mr.drew) | (with_reducible apply Mr.alloc) | (with_reducible apply Mr.ext) | (with_reducible refine Mr.setCell ?_ (by first | (simp; done) | (simp; omega) | omega | (refine leOf0 ?_; (repeat (first | (with_reducible exact Mr.refl _) | (with_reducible apply Mr.drew) | (with_reducible apply Mr.alloc) | (with_reducible apply Mr.ext) | (with_reducible refine Mr.setCell ?_ (by first | (simp; done) | (simp; omega) | omega) _))); done) | (refine leOf ?_; (repeat (first | (with_reducible exact Mr.refl _) | (with_reducible apply Mr.drew) | (with_reducible apply Mr.alloc) | (with_reducible apply Mr.ext) | (with_reducible refine Mr.setCell ?_ (by first | (simp; done) | (simp; omega) | omega) _))); done)) _))))⟩
set_option maxHeartbeats 4000000 in
set_option maxRecDepth 100000 in
theorem walk (s0 : Option Addr) (n0 c0 : Nat) (z0 : List Int) (w : World) (w0 : IsRow .i64 w s0 n0 c0 z0) :
    Calls Try.prog 7 #[.slice s0 n0 c0] w fun e w' => e = .returned (.bool true) ∧ Below w.heap.size w w' := by
  obtain ⟨v0, eV0, hV0⟩ := of_row w0
  have hm := hV0.max
  have hl := hV0.le
  unfold maxLen at hm
  have h9 : n0 ≤ 9223372036854775807 := by omega
  have hc : n0 ≤ c0 := by omega
  clear hm hl
  by_cases h0 : n0 < 1
  · have h01 : (n0 : Int) < 1 := by omega
    have h02 : ¬ (6 : Int) < n0 := by omega
    have h03 : (n0 : Int) ≤ 6 := by omega
    clear hV0 w0
    go_enter Try.func7, Try.ntmps7
    go_wp2_with (first | (go_at_call 8; refine (awake10_c _).mono ?_; rintro e w' ⟨rfl, x, rfl⟩))
    go_ret
    exact ⟨rfl, Mr.grown (by repeat (first | (with_reducible exact Mr.refl _) | (with_reducible assumption) | (with_reducible apply Mr.drew) | (with_reducible apply Mr.alloc) | (with_reducible apply Mr.ext) | (with_reducible refine Mr.setCell ?_ (by first | (simp; done) | (simp; omega) | omega | (refine leOf0 ?_; (repeat (first | (with_reducible exact Mr.refl _) | (with_reducible apply Mr.drew) | (with_reducible apply Mr.alloc) | (with_reducible apply Mr.ext) | (with_reducible refine Mr.setCell ?_ (by first | (simp; done) | (simp; omega) | omega) _))); done) | (refine leOf ?_; (repeat (first | (with_reducible exact Mr.refl _) | (with_reducible apply Mr.drew) | (with_reducible apply Mr.alloc) | (with_reducible apply Mr.ext) | (with_reducible refine Mr.setCell ?_ (by first | (simp; done) | (simp; omega) | omega) _))); done)) _)))⟩
  · by_cases h6 : n0 ≤ 6
    · exact walk1 s0 n0 c0 n0 w eV0 hV0 h9 hc (.inl ⟨h6, rfl⟩) (by omega)
    · exact walk1 s0 n0 c0 6 w (by rw [List.length_take]; omega) (hV0.take 6) h9 hc (.inr ⟨by omega, rfl⟩) (by omega)

set_option maxRecDepth 100000 in
theorem lifted (os : Os) (started : os.Started) (H : Type) (enc : TypeId × Value → H) :
    ReturnsInHanded {} Try.checked os 7 .any (Rows.solveOneSpec.pre6 enc Try.prog Try.f7 Rows.solveOneRow.domain false) (Rows.solveOneSpec.post enc Try.prog Try.f7 false true false false) := by
  refine returnsInHanded_of_change (C := Try.checked) own started (by kernel_rfl) Try.func7
    (ChangeSpec.witness6 (enc := enc) (C := Try.checked) false ⟨#[], #[.slice none 0 0], []⟩ 8 (by kernel_rfl) (by kernel_rfl) (by kernel_rfl) (by kernel_rfl)) ?_
  intro W base args ds gs before hval0 hW hcnd _
  have hval : ∀ (j : Nat) t v, Try.f7.params[j]? = some t → args[j]? = some v → Value.okWide Try.prog W .any base t v := hval0
  have hW' := hW
  obtain ⟨p, q, hA0, hV, rfl, hfz, hnd⟩ := hW
  have hA : DataW.TrodAll enc Try.prog W 0 (fun _ => true) true Try.f7.params.toList args.toList ds p := hA0
  rw [Try.params7] at hA hval
  obtain ⟨v0, vs0, d0, ds0, p_0, q_0, hargs, rfl, rfl, h0, r0⟩ := trodAll_cons hA
  obtain ⟨rfl, rfl, rfl⟩ := trodAll_nil r0
  obtain rfl : args = #[v0] := by cases args; simp_all
  obtain ⟨rfl, rfl⟩ := trodVars_none hV
  obtain ⟨s0, n0, c0, rfl⟩ := okWide_slice Try.underlying23 (hval 0 23 v0 rfl rfl)
  have k0 := h0
  have lt0 : ∀ x ∈ p_0, x.block < W.heap.size := by obtain ⟨m, hm⟩ := k0; exact DataW.trod_lt m _ _ _ hm
  obtain ⟨z0, w0⟩ : ∃ zs, IsRow .i64 W s0 n0 c0 zs := by
    obtain ⟨fuel, hf⟩ := h0
    rcases open_ints Try.underlying23 Try.underlying3 (by kernel_rfl) hf with ⟨hcs, _⟩ | ⟨x, l, c, zs, hcs, _, hl, hm, hz, _, hcell, hwz⟩
    · simp [Value.cells] at hcs
      obtain ⟨rfl, rfl, rfl⟩ := hcs
      exact ⟨[], .inl ⟨rfl, rfl, rfl, rfl⟩⟩
    · simp [Value.cells] at hcs
      obtain ⟨rfl, rfl, rfl⟩ := hcs
      exact ⟨zs, .inr ⟨_, rfl, hl, hm, by simpa using hz, hcell, hwz⟩⟩
  clear hA0 hval0
  refine (walk s0 n0 c0 z0 W w0).mono fun e W' ⟨he, bel⟩ => ?_
  subst he
  exact ⟨_, rfl, _, _, _, [], _, [], hW', trodAll_mk1 (shut_bool Try.underlying4 _), (trodAll_cons_mk (Below.trod laidOut (by kernel_rfl) (of_decide_eq_true (by kernel_rfl)) k0 bel lt0) trodAll_mk0), rfl, bel.frame _, fun h => by cases h⟩

theorem over : Rows.solveOneRow.holds Try.pinned (OpenSpec.ofChange Rows.solveOneSpec) :=
  OpenClaim.holds_of_wide 7 Try.f7 rfl rfl rfl rfl rfl rfl rfl ⟨rfl, rfl, rfl, rfl, rfl⟩ rfl rfl rfl rfl rfl (by kernel_rfl) Try.func7 (by kernel_rfl)
    (of_decide_eq_true (by kernel_rfl)) (by unfold Func.isWrapper; first | (rw [if_pos (by decide +kernel)]; kernel_rfl) | (rw [if_neg (by decide +kernel)]; exact ⟨rfl, rfl⟩))
    (fun os started H enc _ => lifted os started H enc)

theorem proved : Rows.SolveOneSaid :=
  over
#print axioms proved
end Go.Proofs.Ytpammdogkkipbaa.solveOne
