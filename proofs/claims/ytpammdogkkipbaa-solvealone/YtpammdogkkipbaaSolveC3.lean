/- The contracts of package solve, third part: what an even matrix is made of, or that it gives up. -/
import Derived.Test.YtpammdogkkipbaaSolveC1
import Derived.Test.YtpammdogkkipbaaSolveM3
import Derived.Test.YtpammdogkkipbaaRefC27
import Derived.Test.YtpammdogkkipbaaMatC3
namespace Go.Proofs.Ytpammdogkkipbaa
open Go.ChangeShapes Go.WideShapes Go.ChangeAt Go.RowKit
open Go.Proofs.Ytpammdogkkipbaa.Fx Go.Proofs.Ytpammdogkkipbaa.Wd Go.Proofs.Ytpammdogkkipbaa.Sc Go.Proofs.Ytpammdogkkipbaa.Sl Go.Proofs.Ytpammdogkkipbaa.Sm
set_option linter.unusedVariables false
set_option linter.unusedSimpArgs false
attribute [local go_sem] Ext.cell Ext.froz Ext.lt Ext.lt1 Ext.lt2 Ext.lt3 Ext.all drew_heap setCell_size Ext.set_size
namespace Sv
open Ma
theorem om_other {B : Nat} {W : World} {g n : Nat} {R : Nat → Nat} {F : Nat → Nat → Int} (h : Om B W g n R F) {b : Nat} (hg : g ≠ b) (hR : ∀ i, i < n → R i ≠ b) (o : Nat) (v : Value) : Om B (W.setCell ⟨b, o, none⟩ v) g n R F :=
  ⟨h.hB, h.lst.setOther hg _, fun i hi => ⟨(h.row i hi).1, (h.row i hi).2.setOther (hR i hi) _⟩, h.inj⟩
theorem sv_0 {x : Int} (h : co x = false) : sv x 0 = x ∧ so x 0 = false := by
  unfold co wb at h
  rw [decide_eq_false_iff_not] at h
  have e0 : cl 0 = 0 := rfl
  have e : cl x = x := by unfold cl wv; rw [if_neg (by omega), if_neg (by omega)]
  unfold sv so
  rw [e0, e, Int.sub_zero, e]
  refine ⟨rfl, ?_⟩
  unfold co wb
  simp
  omega
theorem so_0 {x : Int} (h : co x = true) : so x 0 = true := by unfold so; rw [h]; rfl
theorem lz_eq {X : Int} {p q d : Nat → Int} (h : co X = false) (j : Nat) : lz X p q d j = lr X p q d j ∧ lzb X p q d j = lf X p q d j := by
  induction j with
  | zero => exact ⟨(sv_0 h).1.symm, (sv_0 h).2.symm⟩
  | succ j ih =>
    obtain ⟨h1, h2⟩ := ih
    unfold lz at h1
    unfold lzb at h2
    unfold lz lzb
    simp only [gr, gf, lr, lf]
    rw [h1, h2]
    exact ⟨rfl, rfl⟩
theorem lf_0 {x : Int} {p q d : Nat → Int} (h : so x 0 = true) (j : Nat) : lf x p q d j = true := by
  induction j with
  | zero => exact h
  | succ j ih => simp only [lf]; rw [ih, Bool.true_or]
theorem fac_val {L : List (List Int)} {n i k : Nat} (en : L.length = n) (hi : i < n) (hk : k ≤ i) (h : co (nm L i k) = true) : facO L = false := by
  have hr : rf' (nm L) i k = true := lf_0 (so_0 h) k
  by_cases e : i = k
  · subst e
    unfold facO; rw [en, okA_no hi (by unfold okC; rw [hr]; rfl), Bool.and_false]
  · have hb : bA (nm L) k (n - 1 - k) = true := by
      unfold bA
      rw [anyB_iff]
      refine ⟨i - k - 1, by omega, ?_⟩
      rw [show k + 1 + (i - k - 1) = i by omega]
      unfold bF
      rw [hr, Bool.true_or]
    unfold facO; rw [en, okA_no (show k < n by omega) (by unfold okC; rw [hb]; simp), Bool.and_false]
theorem ck_row' {l : List Int} {m : Nat} (h : ck (l.take m) m = true) : ∃ q, q < m ∧ co (gt l q) = true := by
  unfold ck at h
  rw [List.take_take, Nat.min_self, List.any_eq_true] at h
  obtain ⟨x, hx, e⟩ := h
  obtain ⟨q, hq, e2⟩ := List.getElem_of_mem hx
  rw [List.length_take] at hq
  refine ⟨q, by omega, ?_⟩
  rw [List.getElem_take] at e2
  have : gt l q = x := by unfold gt; rw [← e2]; simp [List.getD, List.getElem?_eq_getElem (show q < l.length by omega)]
  rw [this]; exact e
theorem ck_row {l : List Int} {m q : Nat} (h : ck (l.take m) m = false) (hq : q < m) (hl : q < l.length) : co (gt l q) = false := by
  unfold ck at h
  rw [List.take_take, Nat.min_self, List.any_eq_false] at h
  have hm : gt l q ∈ l.take m := by
    have e : gt l q = l[q] := by unfold gt; simp [List.getD, List.getElem?_eq_getElem hl]
    rw [e, List.mem_take_iff_getElem]
    exact ⟨q, by omega, rfl⟩
  have := h _ hm
  simpa using this
/-- What is told of an even matrix: it is made of something, or the call gives up. -/
def FacP (w : World) (L : List (List Int)) (n : Nat) (e : Ending) (w' : World) : Prop :=
  Mr w w' ∧ ((facO L = true ∧ ∃ g R D, e = .returned (.tuple #[.slice (some ⟨g, 0, none⟩) n n, .slice (some ⟨D, 0, none⟩) n n]) ∧ Om w.heap.size w' g n R (Lf (nm L)) ∧ w.heap.size ≤ D ∧ w'.rowIs D 3 n (fun k => .int .i64 (Df (nm L) k)) ∧ ∀ i, i < n → R i ≠ D) ∨
    (facO L = false ∧ Lost e))
theorem rw_one {W : World} {b t : Nat} {v : Value} (hb : b = W.heap.size) : (W.alloc (.cells #[v] t)).rowIs b t 1 (fun _ => v) := by
  subst hb
  exact World.rowIs_alloc W #[v] t (fun _ => v) (fun i hi => by simp at hi; subst hi; rfl)
theorem rw_zero {W : World} {b n : Nat} (hb : b = W.heap.size) : (W.alloc (.cells (madeCells #[.int .i64 0] n) 3)).rowIs b 3 n (fun _ => .int .i64 0) := by
  subst hb
  exact World.rowIs_made W (.int .i64 0) n 3
theorem rw_set1 {W : World} {b t : Nat} {v v' : Value} (h : W.rowIs b t 1 (fun _ => v')) : (W.setCell ⟨b, 0, none⟩ v).rowIs b t 1 (fun _ => v) :=
  (World.rowIs.set h 0 v).congr (fun i hi => by rw [if_pos (by omega)])
theorem rw_other {W : World} {b t n b' o : Nat} {v : Value} {f : Nat → Value} (h : W.rowIs b t n f) (ne : b ≠ b') : (W.setCell ⟨b', o, none⟩ v).rowIs b t n f := World.rowIs.setOther h ne v
theorem rw_ext {V : World} {x : Ext V} {b t n : Nat} {f : Nat → Value} (h : V.rowIs b t n f) : x.u.rowIs b t n f := rowIs_mr h x.h
theorem om_alloc {B : Nat} {W : World} {g n : Nat} {R : Nat → Nat} {F : Nat → Nat → Int} (h : Om B W g n R F) (o : Obj) : Om B (W.alloc o) g n R F := h.mr ((Mr.refl W).alloc o)
theorem om_set {W : World} {B b : Nat} {g n : Nat} {R : Nat → Nat} {F : Nat → Nat → Int} {v : Value} (h : Om B W g n R F) (hg : g ≠ b) (hR : ∀ i, i < n → R i ≠ b) : Om B (W.setCell ⟨b, 0, none⟩ v) g n R F := om_other h hg hR 0 v
theorem Bx.one {W : World} {b t : Nat} {v : Value} (h : W.rowIs b t 1 (fun _ => v)) : Bx W b v := ⟨h.lt, h.cell (i := 0) (by omega), h.frozen 0⟩
/-- What lies in memory while it is made. -/
structure Fs (w : World) (ab b1 o1 c n lb db g D : Nat) (R : Nat → Nat) (W : World) (F : Nat → Nat → Int) (d : Nat → Int) : Prop where
  om : Om w.heap.size W g n R F
  hd : W.rowIs D 3 n (fun k => .int .i64 (d k))
  lb : W.rowIs lb 22 1 (fun _ => .slice (some ⟨g, 0, none⟩) n n)
  db : W.rowIs db 23 1 (fun _ => .slice (some ⟨D, 0, none⟩) n n)
  hab : W.rowIs ab 22 1 (fun _ => .slice (some ⟨b1, o1, none⟩) n c)
  mr : Mr w W
  hwD : w.heap.size ≤ D
  hRD : ∀ i, i < n → R i ≠ D
theorem fs_mk {w wx : World} {ab b1 o1 c n lb db g D : Nat} {R : Nat → Nat} {v6 v7 : Value} {F : Nat → Nat → Int} {d : Nat → Int} (e6 : v6 = .pointer (some ⟨lb, 0, none⟩)) (e7 : v7 = .pointer (some ⟨db, 0, none⟩)) (hdb : wx.rowIs db 23 1 (fun _ => .slice (some ⟨D, 0, none⟩) n n)) (om : Om w.heap.size wx g n R F) (hd : wx.rowIs D 3 n (fun k => .int .i64 (d k)))
    (hlb : wx.rowIs lb 22 1 (fun _ => .slice (some ⟨g, 0, none⟩) n n)) (hab : wx.rowIs ab 22 1 (fun _ => .slice (some ⟨b1, o1, none⟩) n c)) (hm : Mr w wx) (hwD : w.heap.size ≤ D) (hRD : ∀ i, i < n → R i ≠ D) :
    ∃ lb db g D R, v6 = .pointer (some ⟨lb, 0, none⟩) ∧ v7 = .pointer (some ⟨db, 0, none⟩) ∧ Fs w ab b1 o1 c n lb db g D R wx F d := ⟨lb, db, g, D, R, e6, e7, om, hd, hlb, hdb, hab, hm, hwD, hRD⟩
variable {w : World} {ab b1 o1 c n lb db g D : Nat} {R : Nat → Nat} {W W' : World} {F F' : Nat → Nat → Int} {d d' : Nat → Int}
theorem Fs.tr (h : Fs w ab b1 o1 c n lb db g D R W F d) (m : Mr W W') : Fs w ab b1 o1 c n lb db g D R W' F d := ⟨h.om.mr m, rowIs_mr h.hd m, rowIs_mr h.lb m, rowIs_mr h.db m, rowIs_mr h.hab m, h.mr.trans m, h.hwD, h.hRD⟩
theorem ne_ty {W : World} {b b' t t' n n' : Nat} {f f' : Nat → Value} (h : W.rowIs b t n f) (h' : W.rowIs b' t' n' f') (ht : t ≠ t') : b ≠ b' := fun e => by subst e; exact ht (rowIs_ty h h')
theorem Fs.setD (h : Fs w ab b1 o1 c n lb db g D R W F d) (i : Nat) (V : Int) (e : ∀ p, p < n → (if p = i then Value.int .i64 V else .int .i64 (d p)) = .int .i64 (d' p)) : Fs w ab b1 o1 c n lb db g D R (W.setCell ⟨D, i, none⟩ (.int .i64 V)) F d' :=
  ⟨om_other h.om (ne_ty h.om.lst h.hd (by decide)) h.hRD i _, (h.hd.set i _).congr e, h.lb.setOther (ne_ty h.lb h.hd (by decide)) _, h.db.setOther (ne_ty h.db h.hd (by decide)) _, h.hab.setOther (ne_ty h.hab h.hd (by decide)) _, h.mr.setCell h.hwD _, h.hwD, h.hRD⟩
theorem Fs.setR (h : Fs w ab b1 o1 c n lb db g D R W F d) (i j : Nat) (hi : i < n) (V : Int) (e : ∀ p q, p < n → q < n → up F i j V p q = F' p q) : Fs w ab b1 o1 c n lb db g D R (W.setCell ⟨R i, j, none⟩ (.int .i64 V)) F' d :=
  ⟨(h.om.set i j hi V).congr e, h.hd.setOther (fun q => h.hRD i hi q.symm) _, h.lb.setOther (ne_ty h.lb (h.om.row i hi).2 (by decide)) _, h.db.setOther (ne_ty h.db (h.om.row i hi).2 (by decide)) _, h.hab.setOther (ne_ty h.hab (h.om.row i hi).2 (by decide)) _, h.mr.setCell (h.om.row i hi).1 _, h.hwD, h.hRD⟩
theorem Fs.congr (h : Fs w ab b1 o1 c n lb db g D R W F d) (e : ∀ p q, p < n → q < n → F p q = F' p q) (e' : ∀ p, p < n → d p = d' p) : Fs w ab b1 o1 c n lb db g D R W F' d' := ⟨h.om.congr e, h.hd.congr (fun p hp => by rw [e' p hp]), h.lb, h.db, h.hab, h.mr, h.hwD, h.hRD⟩
theorem Fs.left (h : Fs w ab b1 o1 c n lb db g D R W F d) (hn : n ≤ 6) {i j b2 o2 rc : Nat} {X : Int} (hi : i < n) (hj : j < n) (g1 : b1 < w.heap.size) (g2 : b2 < w.heap.size) (h1 : w.cell? ⟨b1, o1 + i, none⟩ = some (.slice (some ⟨b2, o2, none⟩) n rc)) (h2 : w.cell? ⟨b2, o2 + j, none⟩ = some (.int .i64 X)) :
    Giv Try.prog 49 #[.int .i64 i, .int .i64 j, .pointer (some ⟨ab, 0, none⟩), .pointer (some ⟨lb, 0, none⟩), .pointer (some ⟨db, 0, none⟩)] W (lzb X (F i) (F j) d j) (.int .i64 (lz X (F i) (F j) d j)) :=
  left_c W hn hi hj (Bx.one h.hab) (Bx.one h.lb) (Bx.one h.db) (Nat.lt_of_lt_of_le g1 h.mr.below.size) (Nat.lt_of_lt_of_le g2 h.mr.below.size) ((h.mr.below.cell (p := ⟨b1, o1 + i, none⟩) g1).trans h1) ((h.mr.below.cell (p := ⟨b2, o2 + j, none⟩) g2).trans h2) h.om h.hd
/-- The numbers that are there behind so many columns. -/
def Lg (a : Nat → Nat → Int) (j : Nat) : Nat → Nat → Int := fun p q => if q < j ∨ p ≤ q then Lf a p q else 0
def Lgm (a : Nat → Nat → Int) (j m : Nat) : Nat → Nat → Int := fun p q => if q < j ∨ p ≤ q ∨ (q = j ∧ p < m) then Lf a p q else 0
theorem Lg_0 (a : Nat → Nat → Int) (p q : Nat) : (if q = p then (4294967296 : Int) else 0) = Lg a 0 p q := by
  unfold Lg
  by_cases e : q = p
  · subst e; rw [if_pos rfl, if_pos (by omega), Lf_diag]
  · rw [if_neg e]
    by_cases l : q < 0 ∨ p ≤ q
    · rw [if_pos l, Lf_up a (by omega)]
    · rw [if_neg l]
theorem Lgm_0 (a : Nat → Nat → Int) (j p q : Nat) : Lg a j p q = Lgm a j (j + 1) p q := by
  unfold Lg Lgm
  by_cases l : q < j ∨ p ≤ q
  · rw [if_pos l, if_pos (by omega)]
  · rw [if_neg l, if_neg (by omega)]
theorem Lgm_step (a : Nat → Nat → Int) (j m p q : Nat) : up (Lgm a j m) m j (Lf a m j) p q = Lgm a j (m + 1) p q := by
  unfold up Lgm
  by_cases e : p = m ∧ q = j
  · obtain ⟨rfl, rfl⟩ := e
    rw [if_pos ⟨rfl, rfl⟩, if_pos (by omega)]
  · rw [if_neg e]
    by_cases l : q < j ∨ p ≤ q ∨ (q = j ∧ p < m)
    · rw [if_pos l, if_pos (by omega)]
    · rw [if_neg l, if_neg (by omega)]
theorem Lgm_all {a : Nat → Nat → Int} {j n p : Nat} (hp : p < n) (q : Nat) : Lgm a j n p q = Lg a (j + 1) p q := by
  unfold Lg Lgm
  by_cases l : q < j ∨ p ≤ q ∨ (q = j ∧ p < n)
  · rw [if_pos l, if_pos (by omega)]
  · rw [if_neg l, if_neg (by omega)]
theorem left_d {a : Nat → Nat → Int} {j : Nat} (h : co (a j j) = false) : lz (a j j) (Lg a j j) (Lg a j j) (Dj a j) j = Df a j ∧ lzb (a j j) (Lg a j j) (Lg a j j) (Dj a j) j = rf' a j j := by
  rw [(lz_eq h j).1, (lz_eq h j).2, Df_eq]
  exact lr_congr rfl (fun k hk => by unfold Lg; rw [if_pos (.inl hk)]) (fun k hk => by unfold Lg; rw [if_pos (.inl hk)]) (fun k hk => by unfold Dj; rw [if_pos hk])
theorem left_l {a : Nat → Nat → Int} {i j m : Nat} (h : co (a i j) = false) : lz (a i j) (Lgm a j m i) (Lgm a j m j) (Dj a (j + 1)) j = rv' a i j ∧ lzb (a i j) (Lgm a j m i) (Lgm a j m j) (Dj a (j + 1)) j = rf' a i j := by
  rw [(lz_eq h j).1, (lz_eq h j).2]
  exact lr_congr rfl (fun k hk => by unfold Lgm; rw [if_pos (.inl hk)]) (fun k hk => by unfold Lgm; rw [if_pos (.inl hk)]) (fun k hk => by unfold Dj; rw [if_pos (by omega)])
theorem sure_c (n : Int) (f : Bool) (w : World) : Calls Try.prog 53 #[.int .i64 n, .bool f] w fun e w' => w' = w ∧ ((f = false ∧ e = .returned (.int .i64 n)) ∨ (f = true ∧ Lost e)) := by
  cases f
  · exact (sure_y n w).mono (fun e w' q => ⟨q.2, .inl ⟨rfl, q.1⟩⟩)
  · exact (sure_n n w).mono (fun e w' q => ⟨q.2, .inr ⟨rfl, q.1⟩⟩)
set_option maxRecDepth 100000 in
set_option maxHeartbeats 4000000 in
theorem sfactors_c {a : Option Addr} {c n : Nat} {L : List (List Int)} (w : World) (h : Rs w a c L) (en : L.length = n) :
    Calls Try.prog 24 #[.slice a n c] w fun e w' => FacP w L n e w' := by
  cases hs : Sl.sq L
  · have hf : facO L = false := by unfold facO; rw [hs]; rfl
    go_enter Try.func24, Try.ntmps24
    go_wp2_with (first | (go_at_call 16; refine (msane_u (h.mr (by repeat (first | (with_reducible exact Mr.refl _) | (with_reducible assumption) | (with_reducible apply Mr.drew) | (with_reducible apply Mr.alloc) | (with_reducible apply Mr.ext) | (with_reducible refine Mr.setCell ?_ (by first | (simp; done) | (simp; omega) | omega | (refine leOf0 ?_; (repeat (first | (with_reducible exact Mr.refl _) | (with_reducible apply Mr.drew) | (with_reducible apply Mr.alloc) | (with_reducible apply Mr.ext) | (with_reducible refine Mr.setCell ?_ (by first | (simp; done) | (simp; omega) | omega) _))); done) | (refine leOf ?_; (repeat (first | (with_reducible exact Mr.refl _) | (with_reducible apply Mr.drew) | (with_reducible apply Mr.alloc) | (with_reducible apply Mr.ext) | (with_reducible refine Mr.setCell ?_ (by first | (simp; done) | (simp; omega) | omega) _))); done)) _)))) en).mono ?_; rw [hs]; rintro e w' ⟨rfl, x, rfl⟩) | (go_at_call 47; refine (must_n _).mono ?_; rintro e w' ⟨⟨u, pv, rfl⟩, hw'⟩; replace hw' := hw'.symm; subst hw'))
    exact ⟨rfl, (by repeat (first | (with_reducible exact Mr.refl _) | (with_reducible assumption) | (with_reducible apply Mr.drew) | (with_reducible apply Mr.alloc) | (with_reducible apply Mr.ext) | (with_reducible refine Mr.setCell ?_ (by first | (simp; done) | (simp; omega) | omega | (refine leOf0 ?_; (repeat (first | (with_reducible exact Mr.refl _) | (with_reducible apply Mr.drew) | (with_reducible apply Mr.alloc) | (with_reducible apply Mr.ext) | (with_reducible refine Mr.setCell ?_ (by first | (simp; done) | (simp; omega) | omega) _))); done) | (refine leOf ?_; (repeat (first | (with_reducible exact Mr.refl _) | (with_reducible apply Mr.drew) | (with_reducible apply Mr.alloc) | (with_reducible apply Mr.ext) | (with_reducible refine Mr.setCell ?_ (by first | (simp; done) | (simp; omega) | omega) _))); done)) _))), .inr ⟨hf, _, _, rfl⟩⟩
  · obtain ⟨⟨h1, h6⟩, hr1⟩ := sq_ok hs en
    have hmf : ∀ (fn : Fn) (first cap : Array Value) (w : World), (Instr.makeFunc fn first cap).run Try.prog w = .ok (.func fn first cap) w := fun _ _ _ _ => rfl
    obtain ⟨b1, o1, ra0, rc0, rfl, hb1w, -, -⟩ := h.row 0 (by omega)
    have hrow : ∀ i, i < n → ∃ b2 o2 rc, w.cell? ⟨b1, o1 + i, none⟩ = some (.slice (some ⟨b2, o2, none⟩) n rc) ∧ b2 < w.heap.size ∧ Is w (some ⟨b2, o2, none⟩) rc (rw' L i) := by
      intro i hi
      obtain ⟨b, o, ra, rc, e, -, hc, hI⟩ := h.row i (by omega)
      simp only [Option.some.injEq, Addr.mk.injEq] at e
      obtain ⟨rfl, rfl, -⟩ := e
      rw [hr1 i hi] at hc
      obtain ⟨b2, o2, rfl, hb2, -⟩ := hI.num 0 (by rw [hr1 i hi]; omega)
      exact ⟨b2, o2, rc, hc, hb2, hI⟩
    have hrc : ∀ i, i < n → ∀ j, j < n → ∀ b2 o2 rc, Is w (some ⟨b2, o2, none⟩) rc (rw' L i) → w.cell? ⟨b2, o2 + j, none⟩ = some (.int .i64 (nm L i j)) := by
      intro i hi j hj b2 o2 rc hI
      obtain ⟨b, o, e, -, hc⟩ := hI.num j (by rw [hr1 i hi]; exact hj)
      simp only [Option.some.injEq, Addr.mk.injEq] at e
      obtain ⟨rfl, rfl, -⟩ := e
      exact hc
    go_enter Try.func24, Try.ntmps24
    go_wp2_with (first | (go_at_call 16; refine (msane_u (h.mr (by repeat (first | (with_reducible exact Mr.refl _) | (with_reducible assumption) | (with_reducible apply Mr.drew) | (with_reducible apply Mr.alloc) | (with_reducible apply Mr.ext) | (with_reducible refine Mr.setCell ?_ (by first | (simp; done) | (simp; omega) | omega | (refine leOf0 ?_; (repeat (first | (with_reducible exact Mr.refl _) | (with_reducible apply Mr.drew) | (with_reducible apply Mr.alloc) | (with_reducible apply Mr.ext) | (with_reducible refine Mr.setCell ?_ (by first | (simp; done) | (simp; omega) | omega) _))); done) | (refine leOf ?_; (repeat (first | (with_reducible exact Mr.refl _) | (with_reducible apply Mr.drew) | (with_reducible apply Mr.alloc) | (with_reducible apply Mr.ext) | (with_reducible refine Mr.setCell ?_ (by first | (simp; done) | (simp; omega) | omega) _))); done)) _)))) en).mono ?_; rw [hs]; rintro e w' ⟨rfl, x, rfl⟩; have hm0 := x.h; generalize x.u = W0 at *; clear x; have hmw : Mr w W0 := ((Mr.refl w).alloc _).trans hm0; obtain ⟨la, ca, -⟩ : Bx W0 w.heap.size (.slice (some ⟨b1, o1, none⟩) n c) := Bx.mr ⟨by simp, by simp [go_sem], by simp [go_sem]⟩ hm0; have hab0 : W0.rowIs w.heap.size 22 1 (fun _ => .slice (some ⟨b1, o1, none⟩) n c) := rowIs_mr (rw_one rfl) hm0; generalize hAb : w.heap.size = ab at la ca hab0 ⊢) | (go_at_call 47; refine (must_y _).mono ?_; rintro e w' ⟨rfl, hw'⟩; replace hw' := hw'.symm; subst hw'))
    go_loopw [16] (fun i wr => ∃ k : Nat, k ≤ n ∧ i = .int .i64 k ∧ Mr W0 wr ∧ Hid (∀ p q, p < k → q ≤ p → co (nm L p q) = false)) (fun i _ => (n - (intOf i).toNat))
    case atStart => exact ⟨0, by omega, rfl, (by repeat (first | (with_reducible exact Mr.refl _) | (with_reducible assumption) | (with_reducible apply Mr.drew) | (with_reducible apply Mr.alloc) | (with_reducible apply Mr.ext) | (with_reducible refine Mr.setCell ?_ (by first | (simp; done) | (simp; omega) | omega | (refine leOf0 ?_; (repeat (first | (with_reducible exact Mr.refl _) | (with_reducible apply Mr.drew) | (with_reducible apply Mr.alloc) | (with_reducible apply Mr.ext) | (with_reducible refine Mr.setCell ?_ (by first | (simp; done) | (simp; omega) | omega) _))); done) | (refine leOf ?_; (repeat (first | (with_reducible exact Mr.refl _) | (with_reducible apply Mr.drew) | (with_reducible apply Mr.alloc) | (with_reducible apply Mr.ext) | (with_reducible refine Mr.setCell ?_ (by first | (simp; done) | (simp; omega) | omega) _))); done)) _))), fun p q hp => by omega⟩
    case round =>
      obtain ⟨k, hk, rfl, hm, HC⟩ := hrel
      by_cases hlt : k < n
      · have hlt' : (k : Int) < n := by omega
        obtain ⟨b2, o2, rc, hcw, hb2w, hI⟩ := hrow k hlt
        have hrn : n ≤ rc := by have := hI.le; rw [hr1 k hlt] at this; exact this
        have hci := ((hmw.trans hm).below.cell (p := ⟨b1, o1 + k, none⟩) hb1w).trans hcw
        have hb1 : b1 < wr.heap.size := Nat.lt_of_lt_of_le hb1w (hmw.trans hm).below.size
        have hlen : ((rw' L k).take (k + 1)).length = k + 1 := by rw [List.length_take, hr1 k hlt]; omega
        have hI1 : Is w (some ⟨b2, o2, none⟩) rc ((rw' L k).take (k + 1)) := hI.take (k + 1)
        cases hb : ck ((rw' L k).take (k + 1)) (k + 1)
        · have HC' : Hid (∀ p q, p < k + 1 → q ≤ p → co (nm L p q) = false) := fun p q hp hq => by
            by_cases e : p = k
            · subst e
              exact ck_row hb (by omega) (by rw [hr1 p hlt]; omega)
            · exact HC.out p q (by omega) hq
          clear hrow hrc HC hr1 h
          go_wp2_with (first | (go_at_call 48; refine Calls.mono (svalues_c _ (hI1.mr (hmw.trans (by repeat (first | (with_reducible exact Mr.refl _) | (with_reducible assumption) | (with_reducible apply Mr.drew) | (with_reducible apply Mr.alloc) | (with_reducible apply Mr.ext) | (with_reducible refine Mr.setCell ?_ (by first | (simp; done) | (simp; omega) | omega | (refine leOf0 ?_; (repeat (first | (with_reducible exact Mr.refl _) | (with_reducible apply Mr.drew) | (with_reducible apply Mr.alloc) | (with_reducible apply Mr.ext) | (with_reducible refine Mr.setCell ?_ (by first | (simp; done) | (simp; omega) | omega) _))); done) | (refine leOf ?_; (repeat (first | (with_reducible exact Mr.refl _) | (with_reducible apply Mr.drew) | (with_reducible apply Mr.alloc) | (with_reducible apply Mr.ext) | (with_reducible refine Mr.setCell ?_ (by first | (simp; done) | (simp; omega) | omega) _))); done)) _))))) hlen) ?_; rw [hb]; rintro e w' ⟨⟨x, rfl⟩, ⟨-, rfl⟩ | ⟨q, -⟩⟩; rotate_left; (cases q)))
          go_roundw
          case rel => exact ⟨k + 1, by omega, by go_num, (by repeat (first | (with_reducible exact Mr.refl _) | (with_reducible assumption) | (with_reducible apply Mr.drew) | (with_reducible apply Mr.alloc) | (with_reducible apply Mr.ext) | (with_reducible refine Mr.setCell ?_ (by first | (simp; done) | (simp; omega) | omega | (refine leOf0 ?_; (repeat (first | (with_reducible exact Mr.refl _) | (with_reducible apply Mr.drew) | (with_reducible apply Mr.alloc) | (with_reducible apply Mr.ext) | (with_reducible refine Mr.setCell ?_ (by first | (simp; done) | (simp; omega) | omega) _))); done) | (refine leOf ?_; (repeat (first | (with_reducible exact Mr.refl _) | (with_reducible apply Mr.drew) | (with_reducible apply Mr.alloc) | (with_reducible apply Mr.ext) | (with_reducible refine Mr.setCell ?_ (by first | (simp; done) | (simp; omega) | omega) _))); done)) _))), HC'⟩
          case measure => simp [intOf]; omega
        · have hf : facO L = false := by
            obtain ⟨q, hq, e⟩ := ck_row' hb
            exact fac_val en hlt (show q ≤ k by omega) e
          have HF : Hid (facO L = false) := hf
          clear hrow hrc HC hr1 h hf
          go_wp2_with (first | (go_at_call 48; refine Calls.mono (svalues_c _ (hI1.mr (hmw.trans (by repeat (first | (with_reducible exact Mr.refl _) | (with_reducible assumption) | (with_reducible apply Mr.drew) | (with_reducible apply Mr.alloc) | (with_reducible apply Mr.ext) | (with_reducible refine Mr.setCell ?_ (by first | (simp; done) | (simp; omega) | omega | (refine leOf0 ?_; (repeat (first | (with_reducible exact Mr.refl _) | (with_reducible apply Mr.drew) | (with_reducible apply Mr.alloc) | (with_reducible apply Mr.ext) | (with_reducible refine Mr.setCell ?_ (by first | (simp; done) | (simp; omega) | omega) _))); done) | (refine leOf ?_; (repeat (first | (with_reducible exact Mr.refl _) | (with_reducible apply Mr.drew) | (with_reducible apply Mr.alloc) | (with_reducible apply Mr.ext) | (with_reducible refine Mr.setCell ?_ (by first | (simp; done) | (simp; omega) | omega) _))); done)) _))))) hlen) ?_; rw [hb]; rintro e w' ⟨⟨x, rfl⟩, ⟨q, -⟩ | ⟨-, u, pv, rfl⟩⟩; (cases q)))
          exact ⟨rfl, hmw.trans (by repeat (first | (with_reducible exact Mr.refl _) | (with_reducible assumption) | (with_reducible apply Mr.drew) | (with_reducible apply Mr.alloc) | (with_reducible apply Mr.ext) | (with_reducible refine Mr.setCell ?_ (by first | (simp; done) | (simp; omega) | omega | (refine leOf0 ?_; (repeat (first | (with_reducible exact Mr.refl _) | (with_reducible apply Mr.drew) | (with_reducible apply Mr.alloc) | (with_reducible apply Mr.ext) | (with_reducible refine Mr.setCell ?_ (by first | (simp; done) | (simp; omega) | omega) _))); done) | (refine leOf ?_; (repeat (first | (with_reducible exact Mr.refl _) | (with_reducible apply Mr.drew) | (with_reducible apply Mr.alloc) | (with_reducible apply Mr.ext) | (with_reducible refine Mr.setCell ?_ (by first | (simp; done) | (simp; omega) | omega) _))); done)) _))), .inr ⟨HF.out, _, _, rfl⟩⟩
      · obtain rfl : n = k := by omega
        have hmk2 := run_make_row' (P := Try.prog) 23 3 (.int .i64 0) 8 Try.underlying23 infoI rfl .i64 .i64 n (by omega) (by omega)
        have ca' := (hm.below.cell (p := ⟨ab, 0, none⟩) la).trans ca
        have la' : ab < wr.heap.size := Nat.lt_of_lt_of_le la hm.below.size
        have hmr := hmw.trans hm
        have hw0 := hmr.below.size
        have hab := rowIs_mr hab0 hm
        clear ca la hm hm0 hmw hab0
        have z1 : ab < wr.heap.size + 1 := by omega
        have z2 : ab < wr.heap.size + 1 + 1 := by omega
        have z3 : ab < wr.heap.size + 1 + 1 + 1 := by omega
        have n0 : ¬ ab = wr.heap.size := by omega
        have n1 : ¬ ab = wr.heap.size + 1 := by omega
        have n2 : ¬ ab = wr.heap.size + 1 + 1 := by omega
        go_wp2
        go_cut [6, 7] (fun v6 v7 wx => ∃ lb db g D R, v6 = .pointer (some ⟨lb, 0, none⟩) ∧ v7 = .pointer (some ⟨db, 0, none⟩) ∧ Fs w ab b1 o1 c n lb db g D R wx (fun i j => if j = i then 4294967296 else 0) (fun _ => 0))
        case first =>
          clear hr1 hrow hrc h hb1w en hs hk hlt HC hAb
          go_region_held (fun w' => w'.cell? ⟨ab, 0, none⟩ = some (.slice (some ⟨b1, o1, none⟩) n c)) ((first | assumption | (simp [go_sem, *]; done))) (first | (go_at_call 18; refine (one1_c n _ h1 h6).mono ?_; rintro e w' ⟨g, R, rfl, x, rfl, hO⟩; have hx := x.h; have q := hx.below.size; simp [drew_heap] at q; have l1 : ab < x.u.heap.size := (by omega); have l2 : ab < x.u.heap.size + 1 := (by omega); have l3 : ab < x.u.heap.size + 1 + 1 := (by omega); have l4 : ab < x.u.heap.size + 1 + 1 + 1 := (by omega); have m0 : ¬ ab = x.u.heap.size := (by omega); have m1 : ¬ ab = x.u.heap.size + 1 := (by omega); have m2 : ¬ ab = x.u.heap.size + 1 + 1 := (by omega)))
          all_goals
            have hgf := And.intro hO.hB hO.lst.lt
            have hRf := fun i hi => And.intro (hO.row i hi).1 (hO.row i hi).2.lt
            simp [drew_heap] at hgf hRf
            have hO' : Om w.heap.size x.u g n R (fun i j => if j = i then 4294967296 else 0) := hO.mono (by simp [drew_heap]; omega)
            go_wp2_with fail
            go_meet
            case rel =>
              exact fs_mk (g := g) (R := R) rfl rfl (by repeat (first | (with_reducible assumption) | (with_reducible refine rw_one ?_; (simp [drew_heap]; done)) | (with_reducible refine rw_zero ?_; (simp [drew_heap]; done)) | (with_reducible refine World.rowIs.alloc ?_ _) | (with_reducible apply rw_set1) | (with_reducible refine rw_other ?_ (by omega)) | (with_reducible refine rw_ext ?_) | (with_reducible refine World.rowIs.drew ?_))) (by repeat (first | (with_reducible assumption) | (with_reducible refine om_alloc ?_ _) | (with_reducible refine om_set ?_ (by omega) (fun i hi => by have := hRf i hi; omega)))) (by repeat (first | (with_reducible assumption) | (with_reducible refine rw_one ?_; (simp [drew_heap]; done)) | (with_reducible refine rw_zero ?_; (simp [drew_heap]; done)) | (with_reducible refine World.rowIs.alloc ?_ _) | (with_reducible apply rw_set1) | (with_reducible refine rw_other ?_ (by omega)) | (with_reducible refine rw_ext ?_) | (with_reducible refine World.rowIs.drew ?_))) (by repeat (first | (with_reducible assumption) | (with_reducible refine rw_one ?_; (simp [drew_heap]; done)) | (with_reducible refine rw_zero ?_; (simp [drew_heap]; done)) | (with_reducible refine World.rowIs.alloc ?_ _) | (with_reducible apply rw_set1) | (with_reducible refine rw_other ?_ (by omega)) | (with_reducible refine rw_ext ?_) | (with_reducible refine World.rowIs.drew ?_))) (by repeat (first | (with_reducible assumption) | (with_reducible refine rw_one ?_; (simp [drew_heap]; done)) | (with_reducible refine rw_zero ?_; (simp [drew_heap]; done)) | (with_reducible refine World.rowIs.alloc ?_ _) | (with_reducible apply rw_set1) | (with_reducible refine rw_other ?_ (by omega)) | (with_reducible refine rw_ext ?_) | (with_reducible refine World.rowIs.drew ?_))) (by repeat (first | (with_reducible exact Mr.refl _) | (with_reducible assumption) | (with_reducible apply Mr.drew) | (with_reducible apply Mr.alloc) | (with_reducible apply Mr.ext) | (with_reducible refine Mr.setCell ?_ (by first | (simp; done) | (simp; omega) | omega | (refine leOf0 ?_; (repeat (first | (with_reducible exact Mr.refl _) | (with_reducible apply Mr.drew) | (with_reducible apply Mr.alloc) | (with_reducible apply Mr.ext) | (with_reducible refine Mr.setCell ?_ (by first | (simp; done) | (simp; omega) | omega) _))); done) | (refine leOf ?_; (repeat (first | (with_reducible exact Mr.refl _) | (with_reducible apply Mr.drew) | (with_reducible apply Mr.alloc) | (with_reducible apply Mr.ext) | (with_reducible refine Mr.setCell ?_ (by first | (simp; done) | (simp; omega) | omega) _))); done)) _))) (by omega) (fun i hi => by have := hRf i hi; omega)
        case rest =>
          obtain ⟨lb, db, g, D, R, rfl, rfl, hF⟩ := hcut
          obtain ⟨A, hA⟩ : ∃ A, nm L = A := ⟨_, rfl⟩
          replace hF := hF.congr (F' := Lg A 0) (d' := Dj A 0) (fun p q _ _ => Lg_0 A p q) (fun p _ => by unfold Dj; rw [if_neg (by omega)])
          rw [hA] at HC hrc
          have hR2 : Hid (∀ i, i < n → ∃ b2 o2 rc, w.cell? ⟨b1, o1 + i, none⟩ = some (.slice (some ⟨b2, o2, none⟩) n rc) ∧ b2 < w.heap.size ∧ ∀ j, j < n → w.cell? ⟨b2, o2 + j, none⟩ = some (.int .i64 (A i j))) := fun i hi => by
            obtain ⟨b2, o2, rc, q1, q2, q3⟩ := hrow i hi
            exact ⟨b2, o2, rc, q1, q2, fun j hj => hrc i hi j hj b2 o2 rc q3⟩
          have hno : Hid (∀ j, j < n → okC A n j = false → facO L = false) := fun j hj q => facO_no en hj (by rw [hA]; exact q)
          have hyes : Hid ((∀ j, j < n → okC A n j = true) → facO L = true) := fun q => by
            unfold facO
            rw [hs, en, Bool.true_and, okA_iff, hA]
            exact q
          have ca1 := hF.hab.cell (i := 0) (by omega)
          have cl1 := hF.lb.cell (i := 0) (by omega)
          have cd1 := hF.db.cell (i := 0) (by omega)
          clear hrow hrc hr1 h ca' la' hmr z1 z2 z3 n0 n1 n2 hw0 hab hmk2
          go_wp2
          go_loopw [36] (fun i wr => ∃ j : Nat, j ≤ n ∧ i = .int .i64 j ∧ Fs w ab b1 o1 c n lb db g D R wr (Lg A j) (Dj A j) ∧ Hid (∀ q, q < j → okC A n q = true)) (fun i _ => (n - (intOf i).toNat))
          case atStart => exact ⟨0, by omega, rfl, hF, fun q hq => by omega⟩
          case round =>
            clear hF ca1 cl1 cd1
            obtain ⟨j, hj, rfl, hF, HK⟩ := hrel
            have hmr := hF.mr
            have cl1 := hF.lb.cell (i := 0) (by omega)
            have cd1 := hF.db.cell (i := 0) (by omega)
            have ll1 := hF.lb.lt
            have ld1 := hF.db.lt
            by_cases hlt : j < n
            · have hlt' : (j : Int) < n := by omega
              obtain ⟨b2, o2, rc, q1, q2, q3⟩ := hR2.out j hlt
              have hco := HC.out j j hlt (Nat.le_refl _)
              obtain ⟨e1, e2⟩ := left_d hco
              have hleft : ∀ W', Mr wr W' → Giv Try.prog 49 #[.int .i64 j, .int .i64 j, .pointer (some ⟨ab, 0, none⟩), .pointer (some ⟨lb, 0, none⟩), .pointer (some ⟨db, 0, none⟩)] W' (rf' A j j) (.int .i64 (Df A j)) := fun W' m => by
                rw [← e1, ← e2]
                exact (hF.tr m).left h6 hlt hlt hb1w q2 q1 (q3 j hlt)
              have hset : ∀ W', Mr wr W' → Fs w ab b1 o1 c n lb db g D R (W'.setCell ⟨D, j, none⟩ (.int .i64 (Df A j))) (Lg A j) (Dj A (j + 1)) := fun W' m => (hF.tr m).setD j _ (fun p _ => Dj_step A j p)
              have f1 : Hid (Df A j < 1 → facO L = false) := fun q => hno.out j hlt (okC_d q)
              have f2 : Hid (rf' A j j = true → facO L = false) := fun q => hno.out j hlt (okC_r q)
              have f3 : Hid (Dj A (j + 1) j = Df A j) := by show Dj A (j + 1) j = Df A j; unfold Dj; rw [if_pos (by omega)]
              have hDl := hF.hd.lt
              have hDc := hF.hd.cell hlt
              have hDf := hF.hd.frozen j
              have nD : ¬ db = D := ne_ty hF.db hF.hd (by decide)
              clear q1 q2 q3 e1 e2 hF
              obtain ⟨X1, hX1e⟩ : ∃ X1, Df A j = X1 := ⟨_, rfl⟩
              rw [hX1e] at hleft hset f1 f3
              replace hX1e : Hid (Df A j = X1) := hX1e
              go_wp2
              go_region_held (fun w' => w'.cell? ⟨db, 0, none⟩ = some (.slice (some ⟨D, 0, none⟩) n n)) ((first | assumption | (simp [go_sem, *]; done))) (first | (go_at_call 49; refine Calls.mono (hleft _ (by repeat (first | (with_reducible exact Mr.refl _) | (with_reducible assumption) | (with_reducible apply Mr.drew) | (with_reducible apply Mr.alloc) | (with_reducible apply Mr.ext) | (with_reducible refine Mr.setCell ?_ (by first | (simp; done) | (simp; omega) | omega | (refine leOf0 ?_; (repeat (first | (with_reducible exact Mr.refl _) | (with_reducible apply Mr.drew) | (with_reducible apply Mr.alloc) | (with_reducible apply Mr.ext) | (with_reducible refine Mr.setCell ?_ (by first | (simp; done) | (simp; omega) | omega) _))); done) | (refine leOf ?_; (repeat (first | (with_reducible exact Mr.refl _) | (with_reducible apply Mr.drew) | (with_reducible apply Mr.alloc) | (with_reducible apply Mr.ext) | (with_reducible refine Mr.setCell ?_ (by first | (simp; done) | (simp; omega) | omega) _))); done)) _)))) ?_; rintro e w1 ⟨⟨x1, rfl⟩, ⟨hb1, rfl⟩ | ⟨hb1, u, pv, rfl⟩⟩; rotate_left; exact ⟨rfl, hmr.trans (by repeat (first | (with_reducible exact Mr.refl _) | (with_reducible assumption) | (with_reducible apply Mr.drew) | (with_reducible apply Mr.alloc) | (with_reducible apply Mr.ext) | (with_reducible refine Mr.setCell ?_ (by first | (simp; done) | (simp; omega) | omega | (refine leOf0 ?_; (repeat (first | (with_reducible exact Mr.refl _) | (with_reducible apply Mr.drew) | (with_reducible apply Mr.alloc) | (with_reducible apply Mr.ext) | (with_reducible refine Mr.setCell ?_ (by first | (simp; done) | (simp; omega) | omega) _))); done) | (refine leOf ?_; (repeat (first | (with_reducible exact Mr.refl _) | (with_reducible apply Mr.drew) | (with_reducible apply Mr.alloc) | (with_reducible apply Mr.ext) | (with_reducible refine Mr.setCell ?_ (by first | (simp; done) | (simp; omega) | omega) _))); done)) _))), .inr ⟨f2.out hb1, _, _, rfl⟩⟩))
              have hF3 := hset x1.u (by repeat (first | (with_reducible exact Mr.refl _) | (with_reducible assumption) | (with_reducible apply Mr.drew) | (with_reducible apply Mr.alloc) | (with_reducible apply Mr.ext) | (with_reducible refine Mr.setCell ?_ (by first | (simp; done) | (simp; omega) | omega | (refine leOf0 ?_; (repeat (first | (with_reducible exact Mr.refl _) | (with_reducible apply Mr.drew) | (with_reducible apply Mr.alloc) | (with_reducible apply Mr.ext) | (with_reducible refine Mr.setCell ?_ (by first | (simp; done) | (simp; omega) | omega) _))); done) | (refine leOf ?_; (repeat (first | (with_reducible exact Mr.refl _) | (with_reducible apply Mr.drew) | (with_reducible apply Mr.alloc) | (with_reducible apply Mr.ext) | (with_reducible refine Mr.setCell ?_ (by first | (simp; done) | (simp; omega) | omega) _))); done)) _)))
              generalize x1.u.setCell ⟨D, j, none⟩ (.int .i64 X1) = W3 at *
              clear hset hleft hDl hDc hDf cl1 cd1 ll1 ld1 hmr x1
              have cd3 := hF3.db.cell (i := 0) (by omega)
              have d3 := hF3.hd.cell hlt
              rw [f3.out] at d3
              have hmr3 := hF3.mr
              by_cases hx : 1 ≤ X1
              · have ca3 := hF3.hab.cell (i := 0) (by omega)
                replace hF3 := hF3.congr (F' := Lgm A j (j + 1)) (d' := Dj A (j + 1)) (fun p q _ _ => Lgm_0 A j p q) (fun _ _ => rfl)
                have f5 : Hid (rf' A j j = false ∧ 1 ≤ X1 ∧ (1 ≤ X1 → 1 ≤ Df A j)) := ⟨hb1, hx, fun q => by rw [hX1e.out]; exact q⟩
                clear f1 f2
                go_wp2_with (first | (go_at_call 47; refine (must_y _).mono ?_; rintro e w' ⟨rfl, hw'⟩; replace hw' := hw'.symm; subst hw'))
                clear ca3 cd3 d3
                go_loopw [10] (fun i wr => ∃ m : Nat, j + 1 ≤ m ∧ m ≤ n ∧ i = .int .i64 m ∧ Fs w ab b1 o1 c n lb db g D R wr (Lgm A j m) (Dj A (j + 1)) ∧ Hid (bA A j (m - (j + 1)) = false)) (fun i _ => (n - (intOf i).toNat))
                case atStart => exact ⟨j + 1, by omega, by omega, by go_num, hF3, by rw [Nat.sub_self]; rfl⟩
                case round =>
                  clear hF3 hmr3
                  obtain ⟨m, hm1, hm2, rfl, hF, HB⟩ := hrel
                  have ca1 := hF.hab.cell (i := 0) (by omega)
                  have hmr := hF.mr
                  by_cases hmt : m < n
                  · have hmt' : (m : Int) < n := by omega
                    obtain ⟨b2, o2, rc, q1, q2, q3⟩ := hR2.out m hmt
                    have hco := HC.out m j hmt (by omega)
                    obtain ⟨e1, e2⟩ := left_l (m := m) hco
                    have hleft : ∀ W', Mr wr W' → Giv Try.prog 49 #[.int .i64 m, .int .i64 j, .pointer (some ⟨ab, 0, none⟩), .pointer (some ⟨lb, 0, none⟩), .pointer (some ⟨db, 0, none⟩)] W' (rf' A m j) (.int .i64 (rv' A m j)) := fun W' q => by
                      rw [← e1, ← e2]
                      exact (hF.tr q).left h6 hmt hlt hb1w q2 q1 (q3 j hlt)
                    have hset : ∀ W', Mr wr W' → Fs w ab b1 o1 c n lb db g D R (W'.setCell ⟨R m, j, none⟩ (.int .i64 (qv (rv' A m j) (Df A j)))) (Lgm A j (m + 1)) (Dj A (j + 1)) := fun W' q => (hF.tr q).setR m j hmt _ (fun p r _ _ => by rw [← Lf_eq A (show j < m by omega)]; exact Lgm_step A j m p r)
                    have hnb : bF A m j = true → facO L = false := fun q => hno.out j hlt (okC_b (by
                      unfold bA
                      rw [anyB_iff]
                      exact ⟨m - j - 1, by omega, by rw [show j + 1 + (m - j - 1) = m by omega]; exact q⟩))
                    have f1 : Hid (rf' A m j = true → facO L = false) := fun q => hnb (by unfold bF; rw [q]; rfl)
                    have f2 : Hid (qb (rv' A m j) (Df A j) = true → facO L = false) := fun q => hnb (by unfold bF; rw [q]; simp)
                    have f6 : Hid (rf' A m j = false → qb (rv' A m j) (Df A j) = false → bA A j (m + 1 - (j + 1)) = false) := fun q q' => by
                      rw [show m + 1 - (j + 1) = (m - (j + 1)) + 1 by omega]
                      have h0 := HB.out
                      unfold bA at h0 ⊢
                      rw [anyB_succ, h0, show j + 1 + (m - (j + 1)) = m by omega]
                      unfold bF
                      rw [q, q']; rfl
                    have f7 : Dj A (j + 1) j = Df A j := by unfold Dj; rw [if_pos (by omega)]
                    rw [hX1e.out] at hset f2 f6 f7
                    obtain ⟨g1, g2, g3, g4⟩ := hF.om.at' m hmt
                    have h1c := (hF.om.num m j hmt hlt).1
                    have h1f := (hF.om.num m j hmt hlt).2
                    have cl1 := hF.lb.cell (i := 0) (by omega)
                    have cd1 := hF.db.cell (i := 0) (by omega)
                    have ll1 := hF.lb.lt
                    have ld1 := hF.db.lt
                    have hDl := hF.hd.lt
                    have hDc := hF.hd.cell hlt
                    rw [f7] at hDc
                    have nl : ¬ lb = R m := ne_ty hF.lb (hF.om.row m hmt).2 (by decide)
                    have nd : ¬ db = R m := ne_ty hF.db (hF.om.row m hmt).2 (by decide)
                    have ng : ¬ g = R m := ne_ty hF.om.lst (hF.om.row m hmt).2 (by decide)
                    have nD : ¬ D = R m := fun e => hF.hRD m hmt e.symm
                    clear q1 q2 q3 e1 e2 hF hnb f7 hR2 hno hyes HC HK
                    generalize rv' A m j = V1 at *
                    generalize Lgm A j m m j = Z0 at *
                    generalize hRm : R m = Rm at *
                    obtain ⟨Z1, hZ1⟩ : ∃ Z1, qv V1 X1 = Z1 := ⟨_, rfl⟩
                    obtain ⟨U1, hU1⟩ : ∃ U1, qb V1 X1 = U1 := ⟨_, rfl⟩
                    rw [hZ1] at hset
                    rw [hU1] at f2 f6
                    go_wp2
                    go_region_held (fun w' => w'.cell? ⟨lb, 0, none⟩ = some (.slice (some ⟨g, 0, none⟩) n n) ∧ w'.cell? ⟨g, m, none⟩ = some (.slice (some ⟨Rm, 0, none⟩) n n) ∧ w'.cell? ⟨db, 0, none⟩ = some (.slice (some ⟨D, 0, none⟩) n n) ∧ w'.cell? ⟨D, j, none⟩ = some (.int .i64 X1)) ((refine ⟨?_, ?_, ?_, ?_⟩ <;> first | assumption | (simp [go_sem, *]; done))) (first | (go_at_call 49; refine Calls.mono (hleft _ (by repeat (first | (with_reducible exact Mr.refl _) | (with_reducible assumption) | (with_reducible apply Mr.drew) | (with_reducible apply Mr.alloc) | (with_reducible apply Mr.ext) | (with_reducible refine Mr.setCell ?_ (by first | (simp; done) | (simp; omega) | omega | (refine leOf0 ?_; (repeat (first | (with_reducible exact Mr.refl _) | (with_reducible apply Mr.drew) | (with_reducible apply Mr.alloc) | (with_reducible apply Mr.ext) | (with_reducible refine Mr.setCell ?_ (by first | (simp; done) | (simp; omega) | omega) _))); done) | (refine leOf ?_; (repeat (first | (with_reducible exact Mr.refl _) | (with_reducible apply Mr.drew) | (with_reducible apply Mr.alloc) | (with_reducible apply Mr.ext) | (with_reducible refine Mr.setCell ?_ (by first | (simp; done) | (simp; omega) | omega) _))); done)) _)))) ?_; rintro e w1 ⟨⟨x1, rfl⟩, ⟨hb2, rfl⟩ | ⟨hb2, u, pv, rfl⟩⟩; rotate_left; exact ⟨rfl, hmr.trans (by repeat (first | (with_reducible exact Mr.refl _) | (with_reducible assumption) | (with_reducible apply Mr.drew) | (with_reducible apply Mr.alloc) | (with_reducible apply Mr.ext) | (with_reducible refine Mr.setCell ?_ (by first | (simp; done) | (simp; omega) | omega | (refine leOf0 ?_; (repeat (first | (with_reducible exact Mr.refl _) | (with_reducible apply Mr.drew) | (with_reducible apply Mr.alloc) | (with_reducible apply Mr.ext) | (with_reducible refine Mr.setCell ?_ (by first | (simp; done) | (simp; omega) | omega) _))); done) | (refine leOf ?_; (repeat (first | (with_reducible exact Mr.refl _) | (with_reducible apply Mr.drew) | (with_reducible apply Mr.alloc) | (with_reducible apply Mr.ext) | (with_reducible refine Mr.setCell ?_ (by first | (simp; done) | (simp; omega) | omega) _))); done)) _))), .inr ⟨f1.out hb2, _, _, rfl⟩⟩) | (go_at_call 17; refine (Sc.over_c _ _ _).mono ?_; rw [hZ1, hU1]; rintro e w2 ⟨rfl, x2, rfl⟩) | (go_at_call 53; refine (sure_c _ _ _).mono ?_; rintro e w3 ⟨rfl, ⟨hb3, rfl⟩ | ⟨hb3, u, pv, rfl⟩⟩; rotate_left; exact ⟨rfl, hmr.trans (by repeat (first | (with_reducible exact Mr.refl _) | (with_reducible assumption) | (with_reducible apply Mr.drew) | (with_reducible apply Mr.alloc) | (with_reducible apply Mr.ext) | (with_reducible refine Mr.setCell ?_ (by first | (simp; done) | (simp; omega) | omega | (refine leOf0 ?_; (repeat (first | (with_reducible exact Mr.refl _) | (with_reducible apply Mr.drew) | (with_reducible apply Mr.alloc) | (with_reducible apply Mr.ext) | (with_reducible refine Mr.setCell ?_ (by first | (simp; done) | (simp; omega) | omega) _))); done) | (refine leOf ?_; (repeat (first | (with_reducible exact Mr.refl _) | (with_reducible apply Mr.drew) | (with_reducible apply Mr.alloc) | (with_reducible apply Mr.ext) | (with_reducible refine Mr.setCell ?_ (by first | (simp; done) | (simp; omega) | omega) _))); done)) _))), .inr ⟨f2.out hb3, _, _, rfl⟩⟩))
                    have hF3 := hset x2.u (by repeat (first | (with_reducible exact Mr.refl _) | (with_reducible assumption) | (with_reducible apply Mr.drew) | (with_reducible apply Mr.alloc) | (with_reducible apply Mr.ext) | (with_reducible refine Mr.setCell ?_ (by first | (simp; done) | (simp; omega) | omega | (refine leOf0 ?_; (repeat (first | (with_reducible exact Mr.refl _) | (with_reducible apply Mr.drew) | (with_reducible apply Mr.alloc) | (with_reducible apply Mr.ext) | (with_reducible refine Mr.setCell ?_ (by first | (simp; done) | (simp; omega) | omega) _))); done) | (refine leOf ?_; (repeat (first | (with_reducible exact Mr.refl _) | (with_reducible apply Mr.drew) | (with_reducible apply Mr.alloc) | (with_reducible apply Mr.ext) | (with_reducible refine Mr.setCell ?_ (by first | (simp; done) | (simp; omega) | omega) _))); done)) _)))
                    have hB3 : Hid (bA A j (m + 1 - (j + 1)) = false) := f6.out hb2 hb3
                    generalize x2.u.setCell ⟨Rm, j, none⟩ (.int .i64 Z1) = W5 at *
                    clear hset hleft hmr x2 x1 f1 f2 f6 h1c h1f cl1 cd1 ll1 ld1 hDl hDc g1 g2 g3 g4 nl nd ng nD ca1
                    go_wp2
                    go_roundw
                    case rel => exact ⟨m + 1, by omega, by omega, by go_num, hF3, hB3⟩
                    case measure => simp [intOf]; omega
                  · obtain rfl : n = m := by omega
                    have hF3 := hF.congr (F' := Lg A (j + 1)) (d' := Dj A (j + 1)) (fun p q hp _ => Lgm_all hp q) (fun _ _ => rfl)
                    have HK2 : Hid (∀ q, q < j + 1 → okC A n q = true) := fun q hq => by
                      by_cases e : q < j
                      · exact HK.out q e
                      · obtain rfl : q = j := by omega
                        exact okC_yes f5.out.1 (f5.out.2.2 hx) (by have := HB.out; rw [show n - (q + 1) = n - 1 - q by omega] at this; exact this)
                    clear hF HB HK f5
                    go_wp2
                    go_roundw
                    case rel => exact ⟨j + 1, by omega, by go_num, hF3, HK2⟩
                    case measure => simp [intOf]; omega
              · have hx' : X1 < 1 := by omega
                have f4 : Hid (facO L = false) := f1.out hx'
                clear f1 f2 f3 hno hyes hF3 HC HK hR2
                go_wp2_with (first | (go_at_call 47; refine (must_n _).mono ?_; rintro e w' ⟨⟨u, pv, rfl⟩, hw'⟩; replace hw' := hw'.symm; subst hw'))
                exact ⟨rfl, hmr3, .inr ⟨f4.out, _, _, rfl⟩⟩
            · obtain rfl : n = j := by omega
              have hO3 : Om w.heap.size wr g n R (Lf (nm L)) := hF.om.congr (fun p q _ hq => by unfold Lg; rw [if_pos (.inl hq), hA])
              have hd3 : wr.rowIs D 3 n (fun k => .int .i64 (Df (nm L) k)) := hF.hd.congr (fun q hq => by unfold Dj; rw [if_pos hq, hA])
              have HY : Hid (facO L = true) := hyes.out HK.out
              have hwD := hF.hwD
              have hRD := hF.hRD
              clear hF hR2 hno hyes HC HK hA
              go_wp2
              go_region
              go_wp2_with fail
              exact bodyPost_ret (v := .tuple #[.slice (some ⟨g, 0, none⟩) n n, .slice (some ⟨D, 0, none⟩) n n]) (by simp [results, Try.results24, go_sem]) rfl ⟨hmr.drew, .inl ⟨HY.out, g, R, D, rfl, hO3.mr (Mr.refl wr).drew, hwD, hd3.drew, hRD⟩⟩
end Sv
end Go.Proofs.Ytpammdogkkipbaa
