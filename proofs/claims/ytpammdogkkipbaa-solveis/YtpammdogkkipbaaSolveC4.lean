/- The contracts of package solve, fourth part: what solves an even matrix, or that it gives up. -/
import Derived.Test.YtpammdogkkipbaaSolveC3
import Derived.Test.YtpammdogkkipbaaRefC28
namespace Go.Proofs.Ytpammdogkkipbaa
open Go.ChangeShapes Go.WideShapes Go.ChangeAt Go.RowKit
open Go.Proofs.Ytpammdogkkipbaa.Fx Go.Proofs.Ytpammdogkkipbaa.Wd Go.Proofs.Ytpammdogkkipbaa.Sc Go.Proofs.Ytpammdogkkipbaa.Sl Go.Proofs.Ytpammdogkkipbaa.Sm
set_option linter.unusedVariables false
set_option linter.unusedSimpArgs false
attribute [local go_sem] Ext.cell Ext.froz Ext.lt Ext.lt1 Ext.lt2 Ext.lt3 Ext.all drew_heap setCell_size Ext.set_size
namespace Sv
open Ma
/-- What is told of what solves an even matrix: a list, or the call gives up. -/
def SolP (w : World) (A : List (List Int)) (v : List Int) (m : Nat) (e : Ending) (w' : World) : Prop :=
  Mr w w' ∧ ((solO A v = true ∧ ∃ X, e = .returned (.slice (some ⟨X, 0, none⟩) m m) ∧ w.heap.size ≤ X ∧ w'.rowIs X 3 m (fun k => .int .i64 (Xf (Zf (gt v) (Lf (nm A)) (Df (nm A))) (Lf (nm A)) m k))) ∨
    (solO A v = false ∧ Lost e))
theorem ck_at {l : List Int} {m : Nat} (h : ck l m = true) : ∃ q, q < m ∧ co (gt l q) = true := by
  unfold ck at h
  rw [List.any_eq_true] at h
  obtain ⟨x, hx, e⟩ := h
  obtain ⟨q, hq, e2⟩ := List.getElem_of_mem hx
  rw [List.length_take] at hq
  refine ⟨q, by omega, ?_⟩
  rw [List.getElem_take] at e2
  have : gt l q = x := by unfold gt; rw [← e2]; simp [List.getD, List.getElem?_eq_getElem (show q < l.length by omega)]
  rw [this]; exact e
theorem ck_no {l : List Int} {m q : Nat} (h : ck l m = false) (hq : q < m) (hl : q < l.length) : co (gt l q) = false := by
  unfold ck at h
  rw [List.any_eq_false] at h
  have hm : gt l q ∈ l.take m := by
    have e : gt l q = l[q] := by unfold gt; simp [List.getD, List.getElem?_eq_getElem hl]
    rw [e, List.mem_take_iff_getElem]
    exact ⟨q, by omega, rfl⟩
  have := h _ hm
  simpa using this
theorem anyB_all {p : Nat → Bool} {n : Nat} (h : ∀ i, i < n → p i = false) : anyB p n = false := by
  rw [Bool.eq_false_iff]
  intro e
  rw [anyB_iff] at e
  obtain ⟨i, hi, q⟩ := e
  rw [h i hi] at q
  cases q
theorem yf_0 {x : Int} {p y : Nat → Int} (h : so x 0 = true) (j : Nat) : yf x p y j = true := by
  induction j with
  | zero => exact h
  | succ j ih => simp only [yf]; rw [ih, Bool.true_or]
/-- What lies in memory while it is solved. -/
structure Ss (w : World) (n lb yb xb g D Y Z X : Nat) (R : Nat → Nat) (W : World) (L : Nat → Nat → Int) (d fy fz fx : Nat → Int) : Prop where
  om : Om w.heap.size W g n R L
  hd : W.rowIs D 3 n (fun k => .int .i64 (d k))
  lb : W.rowIs lb 22 1 (fun _ => .slice (some ⟨g, 0, none⟩) n n)
  yb : W.rowIs yb 23 1 (fun _ => .slice (some ⟨Y, 0, none⟩) n n)
  xb : W.rowIs xb 23 1 (fun _ => .slice (some ⟨X, 0, none⟩) n n)
  hy : W.rowIs Y 3 n (fun k => .int .i64 (fy k))
  hz : W.rowIs Z 3 n (fun k => .int .i64 (fz k))
  hx : W.rowIs X 3 n (fun k => .int .i64 (fx k))
  mr : Mr w W
  hw : w.heap.size ≤ Y ∧ w.heap.size ≤ Z ∧ w.heap.size ≤ X
  ne : Y ≠ Z ∧ Y ≠ X ∧ Z ≠ X ∧ D ≠ Y ∧ D ≠ Z ∧ D ≠ X
  hR : ∀ i, i < n → R i ≠ Y ∧ R i ≠ Z ∧ R i ≠ X
theorem om_drew {B : Nat} {W : World} {g n : Nat} {R : Nat → Nat} {F : Nat → Nat → Int} (h : Om B W g n R F) : Om B W.drew g n R F := h.mr (Mr.refl W).drew
theorem ss_mk {w wx : World} {n lb yb xb g D Y Z X : Nat} {R : Nat → Nat} {v8 v9 v10 : Value} {L : Nat → Nat → Int} {d fy fz fx : Nat → Int} (e8 : v8 = .pointer (some ⟨yb, 0, none⟩)) (e9 : v9 = .slice (some ⟨Z, 0, none⟩) n n) (e10 : v10 = .pointer (some ⟨xb, 0, none⟩))
    (hyb : wx.rowIs yb 23 1 (fun _ => .slice (some ⟨Y, 0, none⟩) n n)) (hxb : wx.rowIs xb 23 1 (fun _ => .slice (some ⟨X, 0, none⟩) n n)) (om : Om w.heap.size wx g n R L) (hd : wx.rowIs D 3 n (fun k => .int .i64 (d k))) (hlb : wx.rowIs lb 22 1 (fun _ => .slice (some ⟨g, 0, none⟩) n n))
    (hy : wx.rowIs Y 3 n (fun k => .int .i64 (fy k))) (hz : wx.rowIs Z 3 n (fun k => .int .i64 (fz k))) (hx : wx.rowIs X 3 n (fun k => .int .i64 (fx k))) (hm : Mr w wx) (hw : w.heap.size ≤ Y ∧ w.heap.size ≤ Z ∧ w.heap.size ≤ X) (ne : Y ≠ Z ∧ Y ≠ X ∧ Z ≠ X ∧ D ≠ Y ∧ D ≠ Z ∧ D ≠ X) (hR : ∀ i, i < n → R i ≠ Y ∧ R i ≠ Z ∧ R i ≠ X) :
    ∃ yb xb Y Z X, v8 = .pointer (some ⟨yb, 0, none⟩) ∧ v9 = .slice (some ⟨Z, 0, none⟩) n n ∧ v10 = .pointer (some ⟨xb, 0, none⟩) ∧ Ss w n lb yb xb g D Y Z X R wx L d fy fz fx := ⟨yb, xb, Y, Z, X, e8, e9, e10, om, hd, hlb, hyb, hxb, hy, hz, hx, hm, hw, ne, hR⟩
variable {w : World} {n lb yb xb g D Y Z X : Nat} {R : Nat → Nat} {W W' : World} {L : Nat → Nat → Int} {d fy fz fx f' : Nat → Int}
theorem Ss.tr (h : Ss w n lb yb xb g D Y Z X R W L d fy fz fx) (m : Mr W W') : Ss w n lb yb xb g D Y Z X R W' L d fy fz fx := ⟨h.om.mr m, rowIs_mr h.hd m, rowIs_mr h.lb m, rowIs_mr h.yb m, rowIs_mr h.xb m, rowIs_mr h.hy m, rowIs_mr h.hz m, rowIs_mr h.hx m, h.mr.trans m, h.hw, h.ne, h.hR⟩
theorem Ss.setY (h : Ss w n lb yb xb g D Y Z X R W L d fy fz fx) (i : Nat) (V : Int) (e : ∀ p, p < n → (if p = i then V else fy p) = f' p) : Ss w n lb yb xb g D Y Z X R (W.setCell ⟨Y, i, none⟩ (.int .i64 V)) L d f' fz fx :=
  ⟨om_other h.om (ne_ty h.om.lst h.hy (by decide)) (fun i hi => (h.hR i hi).1) i _, h.hd.setOther h.ne.2.2.2.1 _, h.lb.setOther (ne_ty h.lb h.hy (by decide)) _, h.yb.setOther (ne_ty h.yb h.hy (by decide)) _, h.xb.setOther (ne_ty h.xb h.hy (by decide)) _, row_set h.hy i V e, h.hz.setOther h.ne.1.symm _, h.hx.setOther h.ne.2.1.symm _, h.mr.setCell h.hw.1 _, h.hw, h.ne, h.hR⟩
theorem Ss.setZ (h : Ss w n lb yb xb g D Y Z X R W L d fy fz fx) (i : Nat) (V : Int) (e : ∀ p, p < n → (if p = i then V else fz p) = f' p) : Ss w n lb yb xb g D Y Z X R (W.setCell ⟨Z, i, none⟩ (.int .i64 V)) L d fy f' fx :=
  ⟨om_other h.om (ne_ty h.om.lst h.hz (by decide)) (fun i hi => (h.hR i hi).2.1) i _, h.hd.setOther h.ne.2.2.2.2.1 _, h.lb.setOther (ne_ty h.lb h.hz (by decide)) _, h.yb.setOther (ne_ty h.yb h.hz (by decide)) _, h.xb.setOther (ne_ty h.xb h.hz (by decide)) _, h.hy.setOther h.ne.1 _, row_set h.hz i V e, h.hx.setOther h.ne.2.2.1.symm _, h.mr.setCell h.hw.2.1 _, h.hw, h.ne, h.hR⟩
theorem Ss.setX (h : Ss w n lb yb xb g D Y Z X R W L d fy fz fx) (i : Nat) (V : Int) (e : ∀ p, p < n → (if p = i then V else fx p) = f' p) : Ss w n lb yb xb g D Y Z X R (W.setCell ⟨X, i, none⟩ (.int .i64 V)) L d fy fz f' :=
  ⟨om_other h.om (ne_ty h.om.lst h.hx (by decide)) (fun i hi => (h.hR i hi).2.2) i _, h.hd.setOther h.ne.2.2.2.2.2 _, h.lb.setOther (ne_ty h.lb h.hx (by decide)) _, h.yb.setOther (ne_ty h.yb h.hx (by decide)) _, h.xb.setOther (ne_ty h.xb h.hx (by decide)) _, h.hy.setOther h.ne.2.1 _, h.hz.setOther h.ne.2.2.1 _, row_set h.hx i V e, h.mr.setCell h.hw.2.2 _, h.hw, h.ne, h.hR⟩
theorem gy_eq {X : Int} {p y : Nat → Int} (h : co X = false) (j : Nat) : gr X (fun k => tv (p k) (y k)) j = yr X p y j ∧ gf X (fun k => tv (p k) (y k)) (fun k => tb (p k) (y k)) j = yf X p y j := by
  induction j with
  | zero => exact ⟨(sv_0 h).1.symm, (sv_0 h).2.symm⟩
  | succ j ih =>
    obtain ⟨h1, h2⟩ := ih
    simp only [gr, gf, yr, yf]
    rw [h1, h2]
    exact ⟨rfl, rfl⟩
theorem gx_eq {z : Int} {p x : Nat → Int} {i : Nat} (j : Nat) : gr z (fun k => tv (p (i + 1 + k)) (x (i + 1 + k))) j = xr z p x i j ∧ gf z (fun k => tv (p (i + 1 + k)) (x (i + 1 + k))) (fun k => tb (p (i + 1 + k)) (x (i + 1 + k))) j = xf z p x i j := by
  induction j with
  | zero => exact ⟨rfl, rfl⟩
  | succ j ih =>
    obtain ⟨h1, h2⟩ := ih
    simp only [gr, gf, xr, xf]
    rw [h1, h2]
    exact ⟨rfl, rfl⟩
theorem down_y {b : Nat → Int} {L : Nat → Nat → Int} {i : Nat} (h : co (b i) = false) : gr (b i) (fun k => tv (L i k) (y1 b L i k)) i = Yf b L i ∧ gf (b i) (fun k => tv (L i k) (y1 b L i k)) (fun k => tb (L i k) (y1 b L i k)) i = yB b L i := by
  rw [(gy_eq h i).1, (gy_eq h i).2, Yf_eq]
  exact yr_congr rfl (fun _ _ => rfl) (fun k hk => by unfold y1; rw [if_pos hk])
/-- The answers from the last one down, on their way: k of them. -/
def x3 (z : Nat → Int) (L : Nat → Nat → Int) (n k p : Nat) : Int := if n - k ≤ p then Xf z L n p else 0
def z2 (b : Nat → Int) (L : Nat → Nat → Int) (D : Nat → Int) (i p : Nat) : Int := if p < i then Zf b L D p else 0
theorem up_x {z : Nat → Int} {L : Nat → Nat → Int} {n k i : Nat} (hi : i + k + 1 = n) : gr (z i) (fun r => tv (L (i + 1 + r) i) (x3 z L n k (i + 1 + r))) (n - 1 - i) = Xf z L n i ∧ gf (z i) (fun r => tv (L (i + 1 + r) i) (x3 z L n k (i + 1 + r))) (fun r => tb (L (i + 1 + r) i) (x3 z L n k (i + 1 + r))) (n - 1 - i) = xB z L n i := by
  have h := gx_eq (z := z i) (p := fun r => L r i) (x := x3 z L n k) (i := i) (n - 1 - i)
  rw [h.1, h.2, Xf_eq z L n i (by omega)]
  exact xr_congr rfl (fun _ _ => rfl) (fun r hr => by unfold x3; rw [if_pos (by omega)])
theorem y1_step (b : Nat → Int) (L : Nat → Nat → Int) (i p : Nat) : (if p = i then Yf b L i else y1 b L i p) = y1 b L (i + 1) p := by
  unfold y1
  by_cases e : p = i
  · subst e; rw [if_pos rfl, if_pos (by omega)]
  · rw [if_neg e]
    by_cases l : p < i
    · rw [if_pos l, if_pos (by omega)]
    · rw [if_neg l, if_neg (by omega)]
theorem z2_step (b : Nat → Int) (L : Nat → Nat → Int) (D : Nat → Int) (i p : Nat) : (if p = i then qv (Yf b L i) (D i) else z2 b L D i p) = z2 b L D (i + 1) p := by
  unfold z2
  by_cases e : p = i
  · subst e; rw [if_pos rfl, if_pos (by omega)]; rfl
  · rw [if_neg e]
    by_cases l : p < i
    · rw [if_pos l, if_pos (by omega)]
    · rw [if_neg l, if_neg (by omega)]
theorem x3_step {z : Nat → Int} {L : Nat → Nat → Int} {n k i : Nat} (hi : i + k + 1 = n) (p : Nat) : (if p = i then Xf z L n i else x3 z L n k p) = x3 z L n (k + 1) p := by
  unfold x3
  by_cases e : p = i
  · subst e; rw [if_pos rfl, if_pos (by omega)]
  · rw [if_neg e]
    by_cases l : n - k ≤ p
    · rw [if_pos l, if_pos (by omega)]
    · rw [if_neg l, if_neg (by omega)]
theorem Ss.down (h : Ss w n lb yb xb g D Y Z X R W L d fy fz fx) (hn : n ≤ 6) {i ib : Nat} {X0 : Int} (hi : i < n) (hib : Bx W ib (.int .i64 i)) : Giv Try.prog 50 #[.int .i64 X0, .int .i64 0, .int .i64 i, .func (.func 55) #[] #[.pointer (some ⟨lb, 0, none⟩), .pointer (some ⟨ib, 0, none⟩), .pointer (some ⟨yb, 0, none⟩)]] W (gf X0 (fun k => tv (L i k) (fy k)) (fun k => tb (L i k) (fy k)) i) (.int .i64 (gr X0 (fun k => tv (L i k) (fy k)) i)) := by
  refine sless_c _ _ _ _ _ _ _ _ (by omega) (by omega) (by omega) _ (fun args W => by simp [go_sem]) (fun k hk y => ?_)
  have h' := h.tr y.h
  rw [Int.zero_add]
  exact down_c y.u hn hi (by omega) (Bx.one h'.lb) (hib.mr y.h) (Bx.one h'.yb) h'.om h'.hy
theorem Ss.upw (h : Ss w n lb yb xb g D Y Z X R W L d fy fz fx) (hn : n ≤ 6) {i ib : Nat} {X0 : Int} (hi : i < n) (hib : Bx W ib (.int .i64 i)) : Giv Try.prog 50 #[.int .i64 X0, .int .i64 ((i : Int) + 1), .int .i64 n, .func (.func 56) #[] #[.pointer (some ⟨lb, 0, none⟩), .pointer (some ⟨ib, 0, none⟩), .pointer (some ⟨xb, 0, none⟩)]] W (gf X0 (fun r => tv (L (i + 1 + r) i) (fx (i + 1 + r))) (fun r => tb (L (i + 1 + r) i) (fx (i + 1 + r))) (n - 1 - i)) (.int .i64 (gr X0 (fun r => tv (L (i + 1 + r) i) (fx (i + 1 + r))) (n - 1 - i))) := by
  refine sless_c _ _ _ _ _ _ _ _ (by omega) (by omega) (by omega) _ (fun args W => by simp [go_sem]) (fun k hk y => ?_)
  have h' := h.tr y.h
  rw [show (i : Int) + 1 + (k : Int) = ((i + 1 + k : Nat) : Int) by omega]
  exact up_c y.u hn hi (by omega) (Bx.one h'.lb) (hib.mr y.h) (Bx.one h'.xb) h'.om h'.hx
/-- The number that lies where a pointer leads, and one more. -/
def bxOf (p : Value) (wr : World) : Nat := match p with | .pointer (some a) => (intOf ((wr.cell? a).getD undef) + 1).toNat | _ => 0
theorem bxOf_eq {wr : World} {ib : Nat} {I : Int} (h : wr.rowIs ib 3 1 (fun _ => .int .i64 I)) : bxOf (.pointer (some ⟨ib, 0, none⟩)) wr = (I + 1).toNat := by
  unfold bxOf
  simp only [h.cell (i := 0) (by omega), Option.getD_some, intOf]
set_option maxRecDepth 100000 in
set_option maxHeartbeats 8000000 in
theorem ssolved_c {a b : Option Addr} {c d n m : Nat} {A : List (List Int)} {v : List Int} (w : World) (h : Rs w a c A) (en : A.length = n) (gv : Is w b d v) (em : v.length = m) :
    Calls Try.prog 29 #[.slice a n c, .slice b m d] w fun e w' => SolP w A v m e w' := by
  have m0 := gv.max
  have k0 := gv.le
  unfold maxLen at m0
  have hm9 : m ≤ 9223372036854775807 := by omega
  have m1 := h.max
  have k1 := h.le
  unfold maxLen at m1
  have hn9 : n ≤ 9223372036854775807 := by omega
  clear m0 k0 m1 k1
  cases hf : facO A
  · have hno : solO A v = false := by unfold solO; rw [hf]; rfl
    go_enter Try.func29, Try.ntmps29
    go_wp2_with (first | (go_at_call 24; refine (sfactors_c _ h en).mono ?_; rintro e w1 ⟨hm0, ⟨q, -⟩ | ⟨-, u, pv, rfl⟩⟩; exact absurd (hf.symm.trans q) (by decide)))
    exact ⟨rfl, hm0, .inr ⟨hno, _, _, rfl⟩⟩
  · by_cases hmn : m = n
    · subst hmn
      have hsq := (facO_sq hf).1
      obtain ⟨⟨h1, h6⟩, hr1⟩ := sq_ok hsq en
      have hmk2 := run_make_row' (P := Try.prog) 23 3 (.int .i64 0) 8 Try.underlying23 infoI rfl .i64 .i64 m (by omega) (by omega)
      cases hb : ck v m
      · go_enter Try.func29, Try.ntmps29
        go_wp2_with (first | (go_at_call 24; refine (sfactors_c _ h en).mono ?_; rintro e w1 ⟨hm0, ⟨hfo, g, R, D, rfl, hO, hwD, hd, hRD⟩ | ⟨q, -⟩⟩; rotate_left; exact absurd (hf.symm.trans q) (by decide)) | (go_at_call 47; refine (must_y _).mono ?_; rintro e w' ⟨rfl, hw'⟩; replace hw' := hw'.symm; subst hw') | (go_at_call 48; refine Calls.mono (svalues_c _ (gv.mr (by repeat (first | (with_reducible exact Mr.refl _) | (with_reducible assumption) | (with_reducible apply Mr.drew) | (with_reducible apply Mr.alloc) | (with_reducible apply Mr.ext) | (with_reducible refine Mr.setCell ?_ (by first | (simp; done) | (simp; omega) | omega | (refine leOf0 ?_; (repeat (first | (with_reducible exact Mr.refl _) | (with_reducible apply Mr.drew) | (with_reducible apply Mr.alloc) | (with_reducible apply Mr.ext) | (with_reducible refine Mr.setCell ?_ (by first | (simp; done) | (simp; omega) | omega) _))); done) | (refine leOf ?_; (repeat (first | (with_reducible exact Mr.refl _) | (with_reducible apply Mr.drew) | (with_reducible apply Mr.alloc) | (with_reducible apply Mr.ext) | (with_reducible refine Mr.setCell ?_ (by first | (simp; done) | (simp; omega) | omega) _))); done)) _)))) em) ?_; rw [hb]; rintro e w' ⟨⟨x, rfl⟩, ⟨-, rfl⟩ | ⟨q, -⟩⟩; rotate_left; (cases q); have hm2 := x.h; generalize x.u = W2 at *; clear x))
        have hlb2 : W2.rowIs w1.heap.size 22 1 (fun _ => .slice (some ⟨g, 0, none⟩) m m) := rowIs_mr (rw_one rfl) hm2
        have hO2 : Om w.heap.size W2 g m R (Lf (nm A)) := (hO.mr ((Mr.refl _).alloc _)).mr hm2
        have hd2 : W2.rowIs D 3 m (fun k => .int .i64 (Df (nm A) k)) := rowIs_mr (World.rowIs.alloc hd _) hm2
        have hmr : Mr w W2 := (hm0.alloc _).trans hm2
        obtain ⟨lb, hlb⟩ : ∃ lb, w1.heap.size = lb := ⟨_, rfl⟩
        rw [hlb] at hlb2
        simp only [hlb]
        obtain ⟨Lq, hLq⟩ : ∃ Lq, Lf (nm A) = Lq := ⟨_, rfl⟩
        obtain ⟨Dq, hDq⟩ : ∃ Dq, Df (nm A) = Dq := ⟨_, rfl⟩
        obtain ⟨bq, hbq⟩ : ∃ bq, gt v = bq := ⟨_, rfl⟩
        rw [hLq] at hO2
        rw [hDq] at hd2
        clear hO hd hlb hm2
        have hsz := hmr.below.size
        have hgl := hO2.lst.lt
        have hDl := hd2.lt
        go_cut [8, 9, 10] (fun v8 v9 v10 wx => ∃ yb xb Y Z X, v8 = .pointer (some ⟨yb, 0, none⟩) ∧ v9 = .slice (some ⟨Z, 0, none⟩) m m ∧ v10 = .pointer (some ⟨xb, 0, none⟩) ∧ Ss w m lb yb xb g D Y Z X R wx Lq Dq (fun _ => 0) (fun _ => 0) (fun _ => 0))
        case first =>
          have hRl : Hid (∀ i, i < m → R i < W2.heap.size) := fun i hi => (hO2.row i hi).2.lt
          clear h gv hr1 en em hf hb hsq hm0 hLq hDq hbq
          go_region
          all_goals
            go_wp2_with fail
            go_meet
            case rel => exact ss_mk (g := g) (R := R) rfl rfl rfl (by repeat (first | (with_reducible assumption) | (with_reducible refine rw_one ?_; (simp [drew_heap]; done)) | (with_reducible refine rw_zero ?_; (simp [drew_heap]; done)) | (with_reducible refine World.rowIs.alloc ?_ _) | (with_reducible apply rw_set1) | (with_reducible refine rw_other ?_ (by omega)) | (with_reducible refine rw_ext ?_) | (with_reducible refine World.rowIs.drew ?_))) (by repeat (first | (with_reducible assumption) | (with_reducible refine rw_one ?_; (simp [drew_heap]; done)) | (with_reducible refine rw_zero ?_; (simp [drew_heap]; done)) | (with_reducible refine World.rowIs.alloc ?_ _) | (with_reducible apply rw_set1) | (with_reducible refine rw_other ?_ (by omega)) | (with_reducible refine rw_ext ?_) | (with_reducible refine World.rowIs.drew ?_))) (by repeat (first | (with_reducible assumption) | (with_reducible refine om_alloc ?_ _) | (with_reducible refine om_drew ?_) | (with_reducible refine om_set ?_ (by omega) (fun i hi => by have := hRf i hi; omega)))) (by repeat (first | (with_reducible assumption) | (with_reducible refine rw_one ?_; (simp [drew_heap]; done)) | (with_reducible refine rw_zero ?_; (simp [drew_heap]; done)) | (with_reducible refine World.rowIs.alloc ?_ _) | (with_reducible apply rw_set1) | (with_reducible refine rw_other ?_ (by omega)) | (with_reducible refine rw_ext ?_) | (with_reducible refine World.rowIs.drew ?_))) (by repeat (first | (with_reducible assumption) | (with_reducible refine rw_one ?_; (simp [drew_heap]; done)) | (with_reducible refine rw_zero ?_; (simp [drew_heap]; done)) | (with_reducible refine World.rowIs.alloc ?_ _) | (with_reducible apply rw_set1) | (with_reducible refine rw_other ?_ (by omega)) | (with_reducible refine rw_ext ?_) | (with_reducible refine World.rowIs.drew ?_))) (by repeat (first | (with_reducible assumption) | (with_reducible refine rw_one ?_; (simp [drew_heap]; done)) | (with_reducible refine rw_zero ?_; (simp [drew_heap]; done)) | (with_reducible refine World.rowIs.alloc ?_ _) | (with_reducible apply rw_set1) | (with_reducible refine rw_other ?_ (by omega)) | (with_reducible refine rw_ext ?_) | (with_reducible refine World.rowIs.drew ?_))) (by repeat (first | (with_reducible assumption) | (with_reducible refine rw_one ?_; (simp [drew_heap]; done)) | (with_reducible refine rw_zero ?_; (simp [drew_heap]; done)) | (with_reducible refine World.rowIs.alloc ?_ _) | (with_reducible apply rw_set1) | (with_reducible refine rw_other ?_ (by omega)) | (with_reducible refine rw_ext ?_) | (with_reducible refine World.rowIs.drew ?_))) (by repeat (first | (with_reducible assumption) | (with_reducible refine rw_one ?_; (simp [drew_heap]; done)) | (with_reducible refine rw_zero ?_; (simp [drew_heap]; done)) | (with_reducible refine World.rowIs.alloc ?_ _) | (with_reducible apply rw_set1) | (with_reducible refine rw_other ?_ (by omega)) | (with_reducible refine rw_ext ?_) | (with_reducible refine World.rowIs.drew ?_))) (by repeat (first | (with_reducible exact Mr.refl _) | (with_reducible assumption) | (with_reducible apply Mr.drew) | (with_reducible apply Mr.alloc) | (with_reducible apply Mr.ext) | (with_reducible refine Mr.setCell ?_ (by first | (simp; done) | (simp; omega) | omega | (refine leOf0 ?_; (repeat (first | (with_reducible exact Mr.refl _) | (with_reducible apply Mr.drew) | (with_reducible apply Mr.alloc) | (with_reducible apply Mr.ext) | (with_reducible refine Mr.setCell ?_ (by first | (simp; done) | (simp; omega) | omega) _))); done) | (refine leOf ?_; (repeat (first | (with_reducible exact Mr.refl _) | (with_reducible apply Mr.drew) | (with_reducible apply Mr.alloc) | (with_reducible apply Mr.ext) | (with_reducible refine Mr.setCell ?_ (by first | (simp; done) | (simp; omega) | omega) _))); done)) _))) (by omega) (by omega) (fun i hi => by have := hRl.out i hi; omega)
        case rest =>
          obtain ⟨yb, xb, Y, Z, X, rfl, rfl, rfl, hS⟩ := hcut
          have hbv : Hid (∀ i, i < m → ∃ b1 o1, b = some ⟨b1, o1, none⟩ ∧ b1 < w.heap.size ∧ w.cell? ⟨b1, o1 + i, none⟩ = some (.int .i64 (bq i)) ∧ co (bq i) = false) := fun i hi => by
            obtain ⟨b1, o1, e, hb1, hc⟩ := gv.num i (by omega)
            rw [← hbq]
            exact ⟨b1, o1, e, hb1, hc, ck_no hb hi (by omega)⟩
          have hyes : Hid ((∀ q, q < m → yB bq Lq q = false ∧ zB bq Lq Dq q = false) → (∀ t, t < m → xB (Zf bq Lq Dq) Lq m (m - 1 - t) = false) → solO A v = true) := fun q1 q2 => by
            unfold solO solB
            rw [hf, hbq, hLq, hDq, en, em, anyB_all (fun i hi => (q1 i hi).1), anyB_all (fun i hi => (q1 i hi).2), anyB_all (p := xB (Zf bq Lq Dq) Lq m) (fun i hi => by have := q2 (m - 1 - i) (by omega); rwa [show m - 1 - (m - 1 - i) = i by omega] at this)]
            simp
          have hnoB : solB bq Lq Dq m = true → solO A v = false := fun q => by
            unfold solO
            rw [hbq, hLq, hDq, en, q]; simp
          have hno1 : Hid (∀ i, i < m → yB bq Lq i = true → solO A v = false) := fun i hi q => hnoB (by
            unfold solB
            have : anyB (yB bq Lq) m = true := by rw [anyB_iff]; exact ⟨i, hi, q⟩
            rw [this]; simp)
          have hno2 : Hid (∀ i, i < m → zB bq Lq Dq i = true → solO A v = false) := fun i hi q => hnoB (by
            unfold solB
            have : anyB (zB bq Lq Dq) m = true := by rw [anyB_iff]; exact ⟨i, hi, q⟩
            rw [this]; simp)
          have hno3 : Hid (∀ i, i < m → xB (Zf bq Lq Dq) Lq m i = true → solO A v = false) := fun i hi q => hnoB (by
            unfold solB
            have : anyB (xB (Zf bq Lq Dq) Lq m) m = true := by rw [anyB_iff]; exact ⟨i, hi, q⟩
            rw [this]; simp)
          have hDf : Hid (Df (nm A) = Dq) := hDq
          have hLf : Hid (Lf (nm A) = Lq) := hLq
          have hbf : Hid (gt v = bq) := hbq
          replace hS : Ss w m lb yb xb g D Y Z X R _ Lq Dq (y1 bq Lq 0) (z2 bq Lq Dq 0) (fun _ => 0) := ⟨hS.om, hS.hd, hS.lb, hS.yb, hS.xb, hS.hy.congr (fun p _ => by unfold y1; rw [if_neg (by omega)]), hS.hz.congr (fun p _ => by unfold z2; rw [if_neg (by omega)]), hS.hx, hS.mr, hS.hw, hS.ne, hS.hR⟩
          clear h gv hr1 en em hf hb hsq hm0 hLq hDq hbq hnoB hO2 hd2 hlb2 hmr hgl hDl hsz hmk2
          go_wp2
          go_loopw [35] (fun t wr => ∃ i : Nat, i ≤ m ∧ t = .int .i64 i ∧ Ss w m lb yb xb g D Y Z X R wr Lq Dq (y1 bq Lq i) (z2 bq Lq Dq i) (fun _ => 0) ∧ Hid (∀ q, q < i → yB bq Lq q = false ∧ zB bq Lq Dq q = false)) (fun t _ => (m - (intOf t).toNat))
          case atStart => exact ⟨0, by omega, rfl, hS, fun q hq => by omega⟩
          case round =>
            clear hS
            obtain ⟨i, hi, rfl, hs, HQ⟩ := hrel
            by_cases hlt : i < m
            · have hlt' : (i : Int) < m := by omega
              obtain ⟨b1, o1, rfl, hb1w, hc1w, hco⟩ := hbv.out i hlt
              have hmr0 := hs.mr
              have hYl := hs.hy.lt
              have hZl := hs.hz.lt
              have hib : (wr.alloc (.cells #[.int .i64 (i : Int)] 3)).rowIs wr.heap.size 3 1 (fun _ => .int .i64 (i : Int)) := rw_one rfl
              have hs1 := hs.tr ((Mr.refl wr).alloc (.cells #[.int .i64 (i : Int)] 3))
              have nY : wr.heap.size ≠ Y := by omega
              have nZ : wr.heap.size ≠ Z := by omega
              clear hYl hZl hs
              go_wp2
              generalize wr.alloc (.cells #[.int .i64 (i : Int)] 3) = W1 at *
              generalize wr.heap.size = ib at *
              obtain ⟨e1, e2⟩ := down_y (L := Lq) hco
              have hless : ∀ W', Mr W1 W' → Giv Try.prog 50 #[.int .i64 (bq i), .int .i64 0, .int .i64 i, .func (.func 55) #[] #[.pointer (some ⟨lb, 0, none⟩), .pointer (some ⟨ib, 0, none⟩), .pointer (some ⟨yb, 0, none⟩)]] W' (yB bq Lq i) (.int .i64 (Yf bq Lq i)) := fun W' q => by
                rw [← e1, ← e2]
                exact (hs1.tr q).down h6 hlt ((Bx.one hib).mr q)
              have hset : ∀ W', Mr W1 W' → Ss w m lb yb xb g D Y Z X R (W'.setCell ⟨Y, i, none⟩ (.int .i64 (Yf bq Lq i))) Lq Dq (y1 bq Lq (i + 1)) (z2 bq Lq Dq i) (fun _ => 0) ∧ (W'.setCell ⟨Y, i, none⟩ (.int .i64 (Yf bq Lq i))).rowIs ib 3 1 (fun _ => .int .i64 (i : Int)) := fun W' q => ⟨(hs1.tr q).setY i _ (fun p _ => y1_step bq Lq i p), (rowIs_mr hib q).setOther nY _⟩
              have f1 : Hid (yB bq Lq i = true → solO A v = false) := hno1.out i hlt
              have f2 : Hid (qb (Yf bq Lq i) (Dq i) = true → solO A v = false) := hno2.out i hlt
              have f3 : y1 bq Lq (i + 1) i = Yf bq Lq i := by unfold y1; rw [if_pos (by omega)]
              have hset2 : ∀ W3 W', Ss w m lb yb xb g D Y Z X R W3 Lq Dq (y1 bq Lq (i + 1)) (z2 bq Lq Dq i) (fun _ => 0) → Mr W3 W' → Ss w m lb yb xb g D Y Z X R (W'.setCell ⟨Z, i, none⟩ (.int .i64 (qv (Yf bq Lq i) (Dq i)))) Lq Dq (y1 bq Lq (i + 1)) (z2 bq Lq Dq (i + 1)) (fun _ => 0) := fun W3 W' q q' => (q.tr q').setZ i _ (fun p _ => z2_step bq Lq Dq i p)
              have f4 : Hid (yB bq Lq i = false → qb (Yf bq Lq i) (Dq i) = false → ∀ q, q < i + 1 → yB bq Lq q = false ∧ zB bq Lq Dq q = false) := fun q1 q2 q hq => by
                by_cases e : q < i
                · exact HQ.out q e
                · obtain rfl : q = i := by omega
                  exact ⟨q1, q2⟩
              have hmr := hs1.mr
              have hc1 := (hmr.below.cell (p := ⟨b1, o1 + i, none⟩) hb1w).trans hc1w
              have hbl : b1 < W1.heap.size := Nat.lt_of_lt_of_le hb1w hmr.below.size
              have c1 := hs1.yb.cell (i := 0) (by omega)
              have l1 := hs1.yb.lt
              have c2 := hib.cell (i := 0) (by omega)
              have l2 := hib.lt
              have c3 := hs1.hy.cell hlt
              have z3 := hs1.hy.frozen i
              have l3 := hs1.hy.lt
              have n1 : ¬ yb = Y := ne_ty hs1.yb hs1.hy (by decide)
              have n2 : ¬ ib = Y := nY
              have n3 : ¬ b1 = Y := by have := hs1.hw.1; omega
              have n4 : ¬ ib = Z := nZ
              have n5 : ¬ yb = Z := ne_ty hs1.yb hs1.hz (by decide)
              have n6 : ¬ Y = Z := hs1.ne.1
              have n7 : ¬ D = Z := hs1.ne.2.2.2.2.1
              clear e1 e2 hs1 hib nY nZ hco hc1w hbv HQ hyes hno1 hno2 hno3 hDf hLf hbf
              generalize y1 bq Lq i i = y0 at *
              obtain ⟨Y1, hY1⟩ : ∃ Y1, Yf bq Lq i = Y1 := ⟨_, rfl⟩
              obtain ⟨D1, hD1⟩ : ∃ D1, Dq i = D1 := ⟨_, rfl⟩
              obtain ⟨Z1, hZ1⟩ : ∃ Z1, qv Y1 D1 = Z1 := ⟨_, rfl⟩
              obtain ⟨U1, hU1⟩ : ∃ U1, qb Y1 D1 = U1 := ⟨_, rfl⟩
              obtain ⟨B1, hB1⟩ : ∃ B1, bq i = B1 := ⟨_, rfl⟩
              rw [hY1] at hless hset f2 f3 hset2 f4
              rw [hD1] at f2 hset2 f4
              rw [hZ1] at hset2
              rw [hU1] at f2 f4
              rw [hB1] at hless hc1
              replace hD1 : Hid (Dq i = D1) := hD1
              clear hY1 hB1
              go_region_held (fun w' => w'.cell? ⟨yb, 0, none⟩ = some (.slice (some ⟨Y, 0, none⟩) m m) ∧ w'.cell? ⟨ib, 0, none⟩ = some (.int .i64 i) ∧ w'.cell? ⟨b1, o1 + i, none⟩ = some (.int .i64 B1)) ((refine ⟨?_, ?_, ?_⟩ <;> first | assumption | (simp [go_sem, *]; done))) (first | (go_at_call 50; refine Calls.mono (hless _ (by repeat (first | (with_reducible exact Mr.refl _) | (with_reducible assumption) | (with_reducible apply Mr.drew) | (with_reducible apply Mr.alloc) | (with_reducible apply Mr.ext) | (with_reducible refine Mr.setCell ?_ (by first | (simp; done) | (simp; omega) | omega | (refine leOf0 ?_; (repeat (first | (with_reducible exact Mr.refl _) | (with_reducible apply Mr.drew) | (with_reducible apply Mr.alloc) | (with_reducible apply Mr.ext) | (with_reducible refine Mr.setCell ?_ (by first | (simp; done) | (simp; omega) | omega) _))); done) | (refine leOf ?_; (repeat (first | (with_reducible exact Mr.refl _) | (with_reducible apply Mr.drew) | (with_reducible apply Mr.alloc) | (with_reducible apply Mr.ext) | (with_reducible refine Mr.setCell ?_ (by first | (simp; done) | (simp; omega) | omega) _))); done)) _)))) ?_; rintro e w1 ⟨⟨x1, rfl⟩, ⟨hb1, rfl⟩ | ⟨hb1, u, pv, rfl⟩⟩; rotate_left; exact ⟨rfl, hmr.trans (by repeat (first | (with_reducible exact Mr.refl _) | (with_reducible assumption) | (with_reducible apply Mr.drew) | (with_reducible apply Mr.alloc) | (with_reducible apply Mr.ext) | (with_reducible refine Mr.setCell ?_ (by first | (simp; done) | (simp; omega) | omega | (refine leOf0 ?_; (repeat (first | (with_reducible exact Mr.refl _) | (with_reducible apply Mr.drew) | (with_reducible apply Mr.alloc) | (with_reducible apply Mr.ext) | (with_reducible refine Mr.setCell ?_ (by first | (simp; done) | (simp; omega) | omega) _))); done) | (refine leOf ?_; (repeat (first | (with_reducible exact Mr.refl _) | (with_reducible apply Mr.drew) | (with_reducible apply Mr.alloc) | (with_reducible apply Mr.ext) | (with_reducible refine Mr.setCell ?_ (by first | (simp; done) | (simp; omega) | omega) _))); done)) _))), .inr ⟨f1.out hb1, _, _, rfl⟩⟩))
              obtain ⟨hs3, hib3⟩ := hset x1.u (by repeat (first | (with_reducible exact Mr.refl _) | (with_reducible assumption) | (with_reducible apply Mr.drew) | (with_reducible apply Mr.alloc) | (with_reducible apply Mr.ext) | (with_reducible refine Mr.setCell ?_ (by first | (simp; done) | (simp; omega) | omega | (refine leOf0 ?_; (repeat (first | (with_reducible exact Mr.refl _) | (with_reducible apply Mr.drew) | (with_reducible apply Mr.alloc) | (with_reducible apply Mr.ext) | (with_reducible refine Mr.setCell ?_ (by first | (simp; done) | (simp; omega) | omega) _))); done) | (refine leOf ?_; (repeat (first | (with_reducible exact Mr.refl _) | (with_reducible apply Mr.drew) | (with_reducible apply Mr.alloc) | (with_reducible apply Mr.ext) | (with_reducible refine Mr.setCell ?_ (by first | (simp; done) | (simp; omega) | omega) _))); done)) _)))
              generalize x1.u.setCell ⟨Y, i, none⟩ (.int .i64 Y1) = W3 at *
              clear hset hless hmr c1 c2 c3 z3 l1 l2 l3 hc1 hbl x1 hmr0 f1
              have hmr3 := hs3.mr
              have c1 := hs3.yb.cell (i := 0) (by omega)
              have l1 := hs3.yb.lt
              have c2 := hib3.cell (i := 0) (by omega)
              have l2 := hib3.lt
              have c3 := hs3.hy.cell hlt
              rw [f3] at c3
              have l3 := hs3.hy.lt
              have c4 := hs3.hd.cell hlt
              rw [hD1.out] at c4
              have l4 := hs3.hd.lt
              have c5 := hs3.hz.cell hlt
              have z5 := hs3.hz.frozen i
              have l5 := hs3.hz.lt
              have hset3 := fun W' => hset2 W3 W' hs3
              generalize z2 bq Lq Dq i i = z0 at *
              clear hset2 hs3 hib3 f3
              go_wp2
              go_region_held (fun w' => w'.cell? ⟨yb, 0, none⟩ = some (.slice (some ⟨Y, 0, none⟩) m m) ∧ w'.cell? ⟨ib, 0, none⟩ = some (.int .i64 i) ∧ w'.cell? ⟨Y, i, none⟩ = some (.int .i64 Y1) ∧ w'.cell? ⟨D, i, none⟩ = some (.int .i64 D1)) ((refine ⟨?_, ?_, ?_, ?_⟩ <;> first | assumption | (simp [go_sem, *]; done))) (first | (go_at_call 17; refine (Sc.over_c _ _ _).mono ?_; rw [hZ1, hU1]; rintro e w2 ⟨rfl, x2, rfl⟩) | (go_at_call 53; refine (sure_c _ _ _).mono ?_; rintro e w3 ⟨rfl, ⟨hb3, rfl⟩ | ⟨hb3, u, pv, rfl⟩⟩; rotate_left; exact ⟨rfl, hmr3.trans (by repeat (first | (with_reducible exact Mr.refl _) | (with_reducible assumption) | (with_reducible apply Mr.drew) | (with_reducible apply Mr.alloc) | (with_reducible apply Mr.ext) | (with_reducible refine Mr.setCell ?_ (by first | (simp; done) | (simp; omega) | omega | (refine leOf0 ?_; (repeat (first | (with_reducible exact Mr.refl _) | (with_reducible apply Mr.drew) | (with_reducible apply Mr.alloc) | (with_reducible apply Mr.ext) | (with_reducible refine Mr.setCell ?_ (by first | (simp; done) | (simp; omega) | omega) _))); done) | (refine leOf ?_; (repeat (first | (with_reducible exact Mr.refl _) | (with_reducible apply Mr.drew) | (with_reducible apply Mr.alloc) | (with_reducible apply Mr.ext) | (with_reducible refine Mr.setCell ?_ (by first | (simp; done) | (simp; omega) | omega) _))); done)) _))), .inr ⟨f2.out hb3, _, _, rfl⟩⟩))
              have hs4 := hset3 x2.u (by repeat (first | (with_reducible exact Mr.refl _) | (with_reducible assumption) | (with_reducible apply Mr.drew) | (with_reducible apply Mr.alloc) | (with_reducible apply Mr.ext) | (with_reducible refine Mr.setCell ?_ (by first | (simp; done) | (simp; omega) | omega | (refine leOf0 ?_; (repeat (first | (with_reducible exact Mr.refl _) | (with_reducible apply Mr.drew) | (with_reducible apply Mr.alloc) | (with_reducible apply Mr.ext) | (with_reducible refine Mr.setCell ?_ (by first | (simp; done) | (simp; omega) | omega) _))); done) | (refine leOf ?_; (repeat (first | (with_reducible exact Mr.refl _) | (with_reducible apply Mr.drew) | (with_reducible apply Mr.alloc) | (with_reducible apply Mr.ext) | (with_reducible refine Mr.setCell ?_ (by first | (simp; done) | (simp; omega) | omega) _))); done)) _)))
              have HQ2 := f4.out hb1 hb3
              generalize x2.u.setCell ⟨Z, i, none⟩ (.int .i64 Z1) = W4 at *
              clear hset3 hmr3 c1 c2 c3 c4 c5 z5 l1 l2 l3 l4 l5 x2 f2 f4
              have HQ3 : Hid (∀ q, q < i + 1 → yB bq Lq q = false ∧ zB bq Lq Dq q = false) := HQ2
              clear HQ2
              go_wp2
              go_roundw
              case rel => exact ⟨i + 1, by omega, by go_num, hs4, HQ3⟩
              case measure => simp [intOf]; omega
            · obtain rfl : m = i := by omega
              have hXl := hs.hx.lt
              have hib : (wr.alloc (.cells #[.int .i64 ((m : Int) - 1)] 3)).rowIs wr.heap.size 3 1 (fun _ => .int .i64 ((m : Int) - 1)) := rw_one rfl
              have hs1 : Ss w m lb yb xb g D Y Z X R _ Lq Dq (y1 bq Lq m) (z2 bq Lq Dq m) (x3 (Zf bq Lq Dq) Lq m 0) := ⟨hs.om, hs.hd, hs.lb, hs.yb, hs.xb, hs.hy, hs.hz, hs.hx.congr (fun p hp => by unfold x3; rw [if_neg (by omega)]), hs.mr, hs.hw, hs.ne, hs.hR⟩
              replace hs1 := hs1.tr ((Mr.refl wr).alloc (.cells #[.int .i64 ((m : Int) - 1)] 3))
              have nX : wr.heap.size ≠ X := by omega
              have hwi : w.heap.size ≤ wr.heap.size := hs.mr.below.size
              clear hXl hs hbv hno1 hno2
              go_wp2
              go_loopw [12] (fun p wr => ∃ (k : Nat) (I0 : Int) (ib : Nat), k ≤ m ∧ I0 = (m : Int) - 1 - k ∧ p = .pointer (some ⟨ib, 0, none⟩) ∧ wr.rowIs ib 3 1 (fun _ => .int .i64 I0) ∧ ib ≠ X ∧ w.heap.size ≤ ib ∧ Ss w m lb yb xb g D Y Z X R wr Lq Dq (y1 bq Lq m) (z2 bq Lq Dq m) (x3 (Zf bq Lq Dq) Lq m k) ∧ Hid (∀ t, t < k → xB (Zf bq Lq Dq) Lq m (m - 1 - t) = false)) (fun p wr => bxOf p wr)
              case atStart => exact ⟨0, _, _, by omega, by omega, rfl, hib, nX, hwi, hs1, fun t ht => by omega⟩
              case round =>
                clear hib hs1 nX hwi
                obtain ⟨k, I0, ib, hk, hI, rfl, hib, nX, hwi, hs, HX⟩ := hrel
                have hmr := hs.mr
                have c2 := hib.cell (i := 0) (by omega)
                have l2 := hib.lt
                by_cases hkt : k < m
                · obtain ⟨i, hik⟩ : ∃ i : Nat, i + k + 1 = m := ⟨m - 1 - k, by omega⟩
                  obtain rfl : I0 = (i : Int) := by omega
                  have him : i < m := by omega
                  have him' : (i : Int) < m := by omega
                  have hi0 : (0 : Int) ≤ i := by omega
                  have hwr : IntKind.i64.wrap ((i : Int) + 1) = (i : Int) + 1 := by simp [IntKind.wrap_i64]; omega
                  obtain ⟨e1, e2⟩ := up_x (z := Zf bq Lq Dq) (L := Lq) hik
                  have hless : ∀ W', Mr wr W' → Giv Try.prog 50 #[.int .i64 (Zf bq Lq Dq i), .int .i64 ((i : Int) + 1), .int .i64 m, .func (.func 56) #[] #[.pointer (some ⟨lb, 0, none⟩), .pointer (some ⟨ib, 0, none⟩), .pointer (some ⟨xb, 0, none⟩)]] W' (xB (Zf bq Lq Dq) Lq m i) (.int .i64 (Xf (Zf bq Lq Dq) Lq m i)) := fun W' q => by
                    rw [← e1, ← e2]
                    exact (hs.tr q).upw h6 him ((Bx.one hib).mr q)
                  have hset : ∀ W', Mr wr W' → Ss w m lb yb xb g D Y Z X R (W'.setCell ⟨X, i, none⟩ (.int .i64 (Xf (Zf bq Lq Dq) Lq m i))) Lq Dq (y1 bq Lq m) (z2 bq Lq Dq m) (x3 (Zf bq Lq Dq) Lq m (k + 1)) ∧ (W'.setCell ⟨X, i, none⟩ (.int .i64 (Xf (Zf bq Lq Dq) Lq m i))).rowIs ib 3 1 (fun _ => .int .i64 (i : Int)) := fun W' q => ⟨(hs.tr q).setX i _ (fun p _ => x3_step hik p), (rowIs_mr hib q).setOther nX _⟩
                  have f1 : Hid (xB (Zf bq Lq Dq) Lq m i = true → solO A v = false) := hno3.out i him
                  have f4 : Hid (xB (Zf bq Lq Dq) Lq m i = false → ∀ t, t < k + 1 → xB (Zf bq Lq Dq) Lq m (m - 1 - t) = false) := fun q1 t ht => by
                    by_cases e : t < k
                    · exact HX.out t e
                    · obtain rfl : t = k := by omega
                      rw [show m - 1 - t = i by omega]; exact q1
                  have f5 : z2 bq Lq Dq m i = Zf bq Lq Dq i := by unfold z2; rw [if_pos him]
                  have c1 := hs.xb.cell (i := 0) (by omega)
                  have l1 := hs.xb.lt
                  have c3 := hs.hx.cell him
                  have z3 := hs.hx.frozen i
                  have l3 := hs.hx.lt
                  have c4 := hs.hz.cell him
                  rw [f5] at c4
                  have l4 := hs.hz.lt
                  have n1 : ¬ xb = X := ne_ty hs.xb hs.hx (by decide)
                  have n2 : ¬ ib = X := nX
                  have n3 : ¬ Z = X := hs.ne.2.2.1
                  have hXlt : X < wr.heap.size := hs.hx.lt
                  have HIK : Hid (i + k + 1 = m) := hik
                  clear e1 e2 hs hib HX hyes hno3 f5 hwi hI hik
                  generalize x3 (Zf bq Lq Dq) Lq m k i = x0 at *
                  obtain ⟨Z1, hZ1⟩ : ∃ Z1, Zf bq Lq Dq i = Z1 := ⟨_, rfl⟩
                  obtain ⟨X1, hX1⟩ : ∃ X1, Xf (Zf bq Lq Dq) Lq m i = X1 := ⟨_, rfl⟩
                  rw [hZ1, hX1] at hless
                  rw [hX1] at hset
                  rw [hZ1] at c4
                  clear hZ1 hX1
                  go_wp2
                  go_region_held (fun w' => w'.cell? ⟨xb, 0, none⟩ = some (.slice (some ⟨X, 0, none⟩) m m) ∧ w'.cell? ⟨ib, 0, none⟩ = some (.int .i64 i) ∧ w'.cell? ⟨Z, i, none⟩ = some (.int .i64 Z1)) ((refine ⟨?_, ?_, ?_⟩ <;> first | assumption | (simp [go_sem, *]; done))) (first | (go_at_call 50; refine Calls.mono (hless _ (by repeat (first | (with_reducible exact Mr.refl _) | (with_reducible assumption) | (with_reducible apply Mr.drew) | (with_reducible apply Mr.alloc) | (with_reducible apply Mr.ext) | (with_reducible refine Mr.setCell ?_ (by first | (simp; done) | (simp; omega) | omega | (refine leOf0 ?_; (repeat (first | (with_reducible exact Mr.refl _) | (with_reducible apply Mr.drew) | (with_reducible apply Mr.alloc) | (with_reducible apply Mr.ext) | (with_reducible refine Mr.setCell ?_ (by first | (simp; done) | (simp; omega) | omega) _))); done) | (refine leOf ?_; (repeat (first | (with_reducible exact Mr.refl _) | (with_reducible apply Mr.drew) | (with_reducible apply Mr.alloc) | (with_reducible apply Mr.ext) | (with_reducible refine Mr.setCell ?_ (by first | (simp; done) | (simp; omega) | omega) _))); done)) _)))) ?_; rintro e w1 ⟨⟨x1, rfl⟩, ⟨hb1, rfl⟩ | ⟨hb1, u, pv, rfl⟩⟩; rotate_left; exact ⟨rfl, hmr.trans (by repeat (first | (with_reducible exact Mr.refl _) | (with_reducible assumption) | (with_reducible apply Mr.drew) | (with_reducible apply Mr.alloc) | (with_reducible apply Mr.ext) | (with_reducible refine Mr.setCell ?_ (by first | (simp; done) | (simp; omega) | omega | (refine leOf0 ?_; (repeat (first | (with_reducible exact Mr.refl _) | (with_reducible apply Mr.drew) | (with_reducible apply Mr.alloc) | (with_reducible apply Mr.ext) | (with_reducible refine Mr.setCell ?_ (by first | (simp; done) | (simp; omega) | omega) _))); done) | (refine leOf ?_; (repeat (first | (with_reducible exact Mr.refl _) | (with_reducible apply Mr.drew) | (with_reducible apply Mr.alloc) | (with_reducible apply Mr.ext) | (with_reducible refine Mr.setCell ?_ (by first | (simp; done) | (simp; omega) | omega) _))); done)) _))), .inr ⟨f1.out hb1, _, _, rfl⟩⟩))
                  obtain ⟨hs3, hib3⟩ := hset x1.u (by repeat (first | (with_reducible exact Mr.refl _) | (with_reducible assumption) | (with_reducible apply Mr.drew) | (with_reducible apply Mr.alloc) | (with_reducible apply Mr.ext) | (with_reducible refine Mr.setCell ?_ (by first | (simp; done) | (simp; omega) | omega | (refine leOf0 ?_; (repeat (first | (with_reducible exact Mr.refl _) | (with_reducible apply Mr.drew) | (with_reducible apply Mr.alloc) | (with_reducible apply Mr.ext) | (with_reducible refine Mr.setCell ?_ (by first | (simp; done) | (simp; omega) | omega) _))); done) | (refine leOf ?_; (repeat (first | (with_reducible exact Mr.refl _) | (with_reducible apply Mr.drew) | (with_reducible apply Mr.alloc) | (with_reducible apply Mr.ext) | (with_reducible refine Mr.setCell ?_ (by first | (simp; done) | (simp; omega) | omega) _))); done)) _)))
                  have hsz3 : wr.heap.size ≤ (x1.u.setCell ⟨X, i, none⟩ (.int .i64 X1)).heap.size := by
                    rw [setCell_size]; exact x1.h.below.size
                  generalize x1.u.setCell ⟨X, i, none⟩ (.int .i64 X1) = W3 at *
                  have hHX := f4.out hb1
                  have HX2 : Hid (∀ t, t < k + 1 → xB (Zf bq Lq Dq) Lq m (m - 1 - t) = false) := hHX
                  have hbx : bxOf (.pointer (some ⟨ib, 0, none⟩)) wr = ((i : Int) + 1).toNat := by
                    unfold bxOf
                    simp only [c2, Option.getD_some, intOf]
                  clear hset hless hmr c1 c2 c3 z3 l1 l2 l3 c4 l4 x1 f1 f4 hHX
                  have c2 := hib3.cell (i := 0) (by omega)
                  have l2 := hib3.lt
                  have hib4 : (W3.alloc (.cells #[.int .i64 ((i : Int) - 1)] 3)).rowIs W3.heap.size 3 1 (fun _ => .int .i64 ((i : Int) - 1)) := rw_one rfl
                  have hs4 := hs3.tr ((Mr.refl W3).alloc (.cells #[.int .i64 ((i : Int) - 1)] 3))
                  have hw4 : w.heap.size ≤ W3.heap.size := hs3.mr.below.size
                  clear hs3 hib3
                  go_wp2
                  go_roundw
                  case rel => exact ⟨k + 1, _, _, by have := HIK.out; omega, by have := HIK.out; omega, rfl, hib4, by omega, hw4, hs4, HX2⟩
                  case measure =>
                    show bxOf _ _ < bxOf _ _
                    rw [bxOf_eq hib4, hbx]
                    omega
                · obtain rfl : m = k := by omega
                  have hI0 : I0 < 0 := by omega
                  have HS : Hid (solO A v = true) := hyes.out HQ.out HX.out
                  have hx := hs.hx.congr (g := fun p => .int .i64 (Xf (Zf bq Lq Dq) Lq m p)) (fun p _ => by unfold x3; rw [if_pos (by omega)])
                  have c1 := hs.xb.cell (i := 0) (by omega)
                  have hwX := hs.hw.2.2
                  clear hs hib HX hyes hno3 HQ hI
                  go_wp2
                  go_ret
                  rw [← hbf.out, ← hLf.out, ← hDf.out] at hx
                  exact ⟨hmr, .inl ⟨HS.out, X, rfl, hwX, hx⟩⟩
      · have hno : solO A v = false := by
          obtain ⟨q, hq, e⟩ := ck_at hb
          unfold solO solB
          have : anyB (yB (gt v) (Lf (nm A))) A.length = true := by
            rw [anyB_iff]
            exact ⟨q, by omega, yf_0 (so_0 e) q⟩
          rw [this]; simp
        go_enter Try.func29, Try.ntmps29
        go_wp2_with (first | (go_at_call 24; refine (sfactors_c _ h en).mono ?_; rintro e w1 ⟨hm0, ⟨hfo, g, R, D, rfl, hO, hwD, hd, hRD⟩ | ⟨q, -⟩⟩; rotate_left; exact absurd (hf.symm.trans q) (by decide)) | (go_at_call 47; refine (must_y _).mono ?_; rintro e w' ⟨rfl, hw'⟩; replace hw' := hw'.symm; subst hw') | (go_at_call 48; refine Calls.mono (svalues_c _ (gv.mr (by repeat (first | (with_reducible exact Mr.refl _) | (with_reducible assumption) | (with_reducible apply Mr.drew) | (with_reducible apply Mr.alloc) | (with_reducible apply Mr.ext) | (with_reducible refine Mr.setCell ?_ (by first | (simp; done) | (simp; omega) | omega | (refine leOf0 ?_; (repeat (first | (with_reducible exact Mr.refl _) | (with_reducible apply Mr.drew) | (with_reducible apply Mr.alloc) | (with_reducible apply Mr.ext) | (with_reducible refine Mr.setCell ?_ (by first | (simp; done) | (simp; omega) | omega) _))); done) | (refine leOf ?_; (repeat (first | (with_reducible exact Mr.refl _) | (with_reducible apply Mr.drew) | (with_reducible apply Mr.alloc) | (with_reducible apply Mr.ext) | (with_reducible refine Mr.setCell ?_ (by first | (simp; done) | (simp; omega) | omega) _))); done)) _)))) em) ?_; rw [hb]; rintro e w' ⟨⟨x, rfl⟩, ⟨q, -⟩ | ⟨-, u, pv, rfl⟩⟩; (cases q)))
        exact ⟨rfl, hm0.trans (by repeat (first | (with_reducible exact Mr.refl _) | (with_reducible assumption) | (with_reducible apply Mr.drew) | (with_reducible apply Mr.alloc) | (with_reducible apply Mr.ext) | (with_reducible refine Mr.setCell ?_ (by first | (simp; done) | (simp; omega) | omega | (refine leOf0 ?_; (repeat (first | (with_reducible exact Mr.refl _) | (with_reducible apply Mr.drew) | (with_reducible apply Mr.alloc) | (with_reducible apply Mr.ext) | (with_reducible refine Mr.setCell ?_ (by first | (simp; done) | (simp; omega) | omega) _))); done) | (refine leOf ?_; (repeat (first | (with_reducible exact Mr.refl _) | (with_reducible apply Mr.drew) | (with_reducible apply Mr.alloc) | (with_reducible apply Mr.ext) | (with_reducible refine Mr.setCell ?_ (by first | (simp; done) | (simp; omega) | omega) _))); done)) _))), .inr ⟨hno, _, _, rfl⟩⟩
    · have hno : solO A v = false := by
        unfold solO
        rw [decide_eq_false (by omega), Bool.and_false, Bool.false_and]
      have hmn' : ((m : Int) == n) = false := by simp; omega
      go_enter Try.func29, Try.ntmps29
      go_wp2_with (first | (go_at_call 24; refine (sfactors_c _ h en).mono ?_; rintro e w1 ⟨hm0, ⟨hfo, g, R, D, rfl, hO, hwD, hd, hRD⟩ | ⟨q, -⟩⟩; rotate_left; exact absurd (hf.symm.trans q) (by decide)) | (go_at_call 47; refine (must_n _).mono ?_; rintro e w' ⟨⟨u, pv, rfl⟩, hw'⟩; replace hw' := hw'.symm; subst hw'))
      exact ⟨rfl, hm0.trans (by repeat (first | (with_reducible exact Mr.refl _) | (with_reducible assumption) | (with_reducible apply Mr.drew) | (with_reducible apply Mr.alloc) | (with_reducible apply Mr.ext) | (with_reducible refine Mr.setCell ?_ (by first | (simp; done) | (simp; omega) | omega | (refine leOf0 ?_; (repeat (first | (with_reducible exact Mr.refl _) | (with_reducible apply Mr.drew) | (with_reducible apply Mr.alloc) | (with_reducible apply Mr.ext) | (with_reducible refine Mr.setCell ?_ (by first | (simp; done) | (simp; omega) | omega) _))); done) | (refine leOf ?_; (repeat (first | (with_reducible exact Mr.refl _) | (with_reducible apply Mr.drew) | (with_reducible apply Mr.alloc) | (with_reducible apply Mr.ext) | (with_reducible refine Mr.setCell ?_ (by first | (simp; done) | (simp; omega) | omega) _))); done)) _))), .inr ⟨hno, _, _, rfl⟩⟩
end Sv
end Go.Proofs.Ytpammdogkkipbaa
