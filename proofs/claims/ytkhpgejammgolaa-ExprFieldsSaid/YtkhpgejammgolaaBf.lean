/- Bf: ERFit ESound ELz ERSmall ELazy EUses ERows ERows2 EFields (made by bundle.py). -/
import Derived.Test.YtkhpgejammgolaaBe
/- Layer 5: do values fit fields, by the program and by the document. (Made by gen/genfit.py.) -/
namespace Go.Proofs.Ytkhpgejammgolaa
open Go.RowKit
set_option linter.unusedVariables false
set_option linter.unusedSimpArgs false
set_option maxRecDepth 20000

end Go.Proofs.Ytkhpgejammgolaa

/- Layer 5: ExprSound. -/
namespace Go.Proofs.Ytkhpgejammgolaa
open Go.RowKit
set_option linter.unusedVariables false
set_option linter.unusedSimpArgs false
set_option maxRecDepth 20000

theorem setV_good {v : Vl} (h : goodV v = true) : goodV (setV v) = true ∧ (setV v).k = v.k := by
  unfold setV
  by_cases h4 : v.k = 4
  · rw [if_pos h4, reck_self h h4]
    exact ⟨good_num _, h4.symm⟩
  · rw [if_neg h4]
    exact ⟨h, rfl⟩
theorem sound_pure {e : Ex} {fs : List Fd} {vs : List Vl} {k : Int} (hc : checkX e fs = (k, 0)) (hf : fitX fs vs = true) (hok : okX 6 e) (hvs : ∀ v ∈ vs, okV v) :
    ((evalP e fs vs).2 = 0 ∧ (evalP e fs vs).1.k = k ∧ goodV (evalP e fs vs).1 = true) ∨ ((evalP e fs vs).2 = 41 ∨ (evalP e fs vs).2 = 42) := by
  have hsm : smallX e = true := by
    cases hs : smallX e with
    | true => rfl
    | false =>
      have : checkX e fs = (0, 51) := by unfold checkX; rw [hs]; rfl
      rw [this] at hc; exact absurd hc (by intro h; injection h with _ h; exact absurd h (by decide))
  have hck : chkX 6 e fs = (k, 0) := by
    have : checkX e fs = chkX 6 e fs := by unfold checkX; rw [hsm]; rfl
    rw [← this]; exact hc
  have hs := ev_sound fs vs hf hvs 6 e k hok ((smallX_iff e).1 hsm).1 hck
  have he : evalP e fs vs = endV (evX 6 e fs vs) := by
    unfold evalP
    rw [hc, if_neg (fun h => h rfl), if_pos hf]
  rw [he]
  unfold endV
  rcases hs with ⟨h0, h1, h2, h3⟩ | ⟨h1, h2⟩
  · rw [if_pos h0]
    exact .inl ⟨rfl, by rw [(setV_good h1).2]; exact h3, (setV_good h1).1⟩
  · rw [if_neg (by omega)]
    exact .inr h1

/-- a law's two boxes: the expression, the scope -/
structure SB (w : World) (FA : Option Addr) (fn FC : Nat) (VA : Option Addr) (vn VC : Nat) (op : Int) (A : Option Addr) (n c : Nat) (nm : ByteArray) (v : Vl) (W : World) : Prop where
  bel : Below w.heap.size w W
  ex : CellsX W w.heap.size op A n c nm v
  f : W.cell? ⟨w.heap.size + 1, 0, none⟩ = some (.slice FA fn FC)
  v : W.cell? ⟨w.heap.size + 1, 1, none⟩ = some (.slice VA vn VC)
  lt : w.heap.size + 2 ≤ W.heap.size
theorem SB.below {w : World} {FA : Option Addr} {fn FC : Nat} {VA : Option Addr} {vn VC : Nat} {op : Int} {A : Option Addr} {n c : Nat} {nm : ByteArray} {v : Vl} {W W' : World} (h : SB w FA fn FC VA vn VC op A n c nm v W) (hb : Below W.heap.size W W') : SB w FA fn FC VA vn VC op A n c nm v W' :=
  ⟨h.bel.trans (hb.mono h.bel.size), h.ex.below hb, keepc hb (by have := h.lt; omega) h.f, keepc hb (by have := h.lt; omega) h.v, Nat.le_trans h.lt hb.size⟩
theorem SB.new (w : World) (FA : Option Addr) (fn FC : Nat) (VA : Option Addr) (vn VC : Nat) (op : Int) (A : Option Addr) (n c : Nat) (nm : ByteArray) (v : Vl) (t : TypeId) :
    SB w FA fn FC VA vn VC op A n c nm v ((w.alloc (bxX op A n c nm v)).alloc (.cells #[.slice FA fn FC, .slice VA vn VC] t)) := by
  have h2 := heap_alloc_new (w.alloc (bxX op A n c nm v)) (.cells #[.slice FA fn FC, .slice VA vn VC] t)
  have hs : (w.alloc (bxX op A n c nm v)).heap.size = w.heap.size + 1 := by simp
  rw [hs] at h2
  exact ⟨vbox2 w _ _, (Kid_new w op A n c nm v).below (alloc1 _ _), (cell_of_row _ _ 0 _ _ (0, 0) h2).trans rfl, (cell_of_row _ _ 1 _ _ (0, 0) h2).trans rfl, by simp⟩
end Go.Proofs.Ytkhpgejammgolaa

/- Layer 5: ExprLazy, by definition; three kids laid in a row. -/
namespace Go.Proofs.Ytkhpgejammgolaa
open Go.RowKit
set_option linter.unusedVariables false
set_option linter.unusedSimpArgs false
set_option maxRecDepth 20000

theorem setV_2 {v : Vl} (h : v.k = 2) : setV v = v := by unfold setV; rw [if_neg (by omega)]
/-- a truth that Eval tells is what evX tells -/
theorem lz_eval {e : Ex} {fs : List Fd} {vs : List Vl} {v : Vl} (hc : checkX e fs = (2, 0)) (he : evalP e fs vs = (v, 0)) (hok : okX 6 e) (hvs : ∀ v ∈ vs, okV v) :
    evalX e fs vs = (v, 0) ∧ goodV v = true ∧ v.k = 2 ∧ okV v := by
  obtain ⟨h1, h2⟩ := lz_small hc
  unfold evalP at he
  rw [hc, if_neg (fun h => h rfl)] at he
  cases hf : fitX fs vs with
  | false => rw [hf, if_neg (by decide)] at he; injection he with _ he; exact absurd he (by decide)
  | true =>
    rw [hf, if_pos rfl] at he
    have hs := ev_sound fs vs hf hvs 6 e 2 hok h1 h2
    unfold endV at he
    rcases hs with ⟨s0, s1, s2, s3⟩ | ⟨s1, s2⟩
    · rw [if_pos s0] at he
      injection he with he _
      rw [setV_2 s3] at he
      refine ⟨?_, by rw [← he]; exact s1, by rw [← he]; exact s3, by rw [← he]; exact s2⟩
      unfold evalX
      rw [hc, if_neg (fun h => h rfl), hf, if_pos rfl]
      exact Prod.ext he s0
    · rw [if_neg (by omega)] at he
      injection he with _ he
      omega
theorem evalP_of {t : Ex} {fs : List Fd} {vs : List Vl} {v : Vl} (h : evalX t fs vs = (v, 0)) (h2 : v.k = 2) : evalP t fs vs = (v, 0) := by
  unfold evalX at h
  unfold evalP
  by_cases h0 : (checkX t fs).2 ≠ 0
  · rw [if_pos h0] at h; injection h with _ h; exact absurd h h0
  · rw [if_neg h0] at h ⊢
    cases hf : fitX fs vs with
    | false => rw [hf, if_neg (by decide)] at h; injection h with _ h; exact absurd h (by decide)
    | true =>
      rw [hf, if_pos rfl] at h
      rw [if_pos rfl, h]
      unfold endV
      rw [if_pos rfl, setV_2 h2]
/-- 5.2: what the law's four tell, where they are small -/
theorem lz_if_t {e : Ex} {fs : List Fd} {vs : List Vl} {v : Vl} (hc : checkX e fs = (2, 0)) (he : evalP e fs vs = (v, 0)) (hok : okX 6 e) (hvs : ∀ v ∈ vs, okV v) (hb : v.b = true) (hs : smallX (opX 13 [e, conX v, nought]) = true) : evalP (opX 13 [e, conX v, nought]) fs vs = (v, 0) := by
  obtain ⟨h1, h2, h3, h4⟩ := lz_eval hc he hok hvs
  exact evalP_of (lazy_if hc h1 hs (by rw [← h3]; exact chk_con 4 v fs h2) (chk_nought 2 fs) (by rw [if_pos hb]; exact ev_con 4 v fs vs)) h3
theorem lz_if_f {e : Ex} {fs : List Fd} {vs : List Vl} {v : Vl} (hc : checkX e fs = (2, 0)) (he : evalP e fs vs = (v, 0)) (hok : okX 6 e) (hvs : ∀ v ∈ vs, okV v) (hb : v.b = false) (hs : smallX (opX 13 [e, nought, conX v]) = true) : evalP (opX 13 [e, nought, conX v]) fs vs = (v, 0) := by
  obtain ⟨h1, h2, h3, h4⟩ := lz_eval hc he hok hvs
  exact evalP_of (lazy_if hc h1 hs (chk_nought 2 fs) (by rw [← h3]; exact chk_con 4 v fs h2) (by rw [hb, if_neg (by decide)]; exact ev_con 4 v fs vs)) h3
theorem lz_or {e : Ex} {fs : List Fd} {vs : List Vl} {v : Vl} (hc : checkX e fs = (2, 0)) (he : evalP e fs vs = (v, 0)) (hok : okX 6 e) (hvs : ∀ v ∈ vs, okV v) (o : Int) (ho : o = 10 ∨ o = 11) (hb : v.b = decide (o = 11)) (hs : smallX (opX o [e, nought]) = true) : evalP (opX o [e, nought]) fs vs = (v, 0) := by
  obtain ⟨h1, h2, h3, h4⟩ := lz_eval hc he hok hvs
  exact evalP_of (lazy_or ho hc h1 hs (chk_nought 2 fs) hb) h3
/-- three kids laid in a new row -/
abbrev row3 (p0 : Int) (A0 : Option Addr) (n0 c0 : Nat) (m0 : ByteArray) (y0 : Vl) (p1 : Int) (A1 : Option Addr) (n1 c1 : Nat) (m1 : ByteArray) (y1 : Vl) (p2 : Int) (A2 : Option Addr) (n2 c2 : Nat) (m2 : ByteArray) (y2 : Vl) : Obj :=
  .cells #[.int .i64 p0, .slice A0 n0 c0, .string m0, .int .i64 y0.k, .int .i64 y0.i, .bool y0.b, .string y0.s, .float .f64 y0.n, .int .i64 p1, .slice A1 n1 c1, .string m1, .int .i64 y1.k, .int .i64 y1.i, .bool y1.b, .string y1.s, .float .f64 y1.n, .int .i64 p2, .slice A2 n2 c2, .string m2, .int .i64 y2.k, .int .i64 y2.i, .bool y2.b, .string y2.s, .float .f64 y2.n] 27
theorem ExE.three {w : World} {A0 A1 A2 : Option Addr} {c0 c1 c2 : Nat} {e0 e1 e2 : Ex} (o : Int) (h0 : ExE w A0 c0 e0) (h1 : ExE w A1 c1 e1) (h2 : ExE w A2 c2 e2) :
    ExE (w.alloc (row3 e0.op A0 e0.kids.length c0 e0.name e0.val e1.op A1 e1.kids.length c1 e1.name e1.val e2.op A2 e2.kids.length c2 e2.name e2.val)) (some ⟨w.heap.size, 0, none⟩) 3 (opX o [e0, e1, e2]) := by
  obtain ⟨D0, h0⟩ := h0
  obtain ⟨D1, h1⟩ := h1
  obtain ⟨D2, h2⟩ := h2
  have hn := heap_alloc_new w (row3 e0.op A0 e0.kids.length c0 e0.name e0.val e1.op A1 e1.kids.length c1 e1.name e1.val e2.op A2 e2.kids.length c2 e2.name e2.val)
  have hb : Below w.heap.size w (w.alloc (row3 e0.op A0 e0.kids.length c0 e0.name e0.val e1.op A1 e1.kids.length c1 e1.name e1.val e2.op A2 e2.kids.length c2 e2.name e2.val)) := alloc1 _ _
  have g0 := (h0.upto (D1 + D2)).below hb (Nat.le_refl _)
  have g1 := (h1.upto (D0 + D2)).below hb (Nat.le_refl _)
  have g2 := (h2.upto (D0 + D1)).below hb (Nat.le_refl _)
  rw [show D1 + (D0 + D2) = D0 + (D1 + D2) by omega] at g1
  rw [show D2 + (D0 + D1) = D0 + (D1 + D2) by omega] at g2
  refine ⟨D0 + (D1 + D2) + 1, Nat.le_refl _, by unfold maxLen; show 3 ≤ 2 ^ 63 - 1; omega, fun h => (by cases h), fun j hj => ?_⟩
  have hj2 : j < 3 := hj
  match j, hj2 with
  | 0, _ => exact ⟨_, A0, c0, rfl, by simp, by rw [Addr.add_lit]; exact kid_row _ _ _ _ _ hn _ _ _ _ _ _ rfl rfl rfl rfl rfl rfl rfl rfl, g0⟩
  | 1, _ => exact ⟨_, A1, c1, rfl, by simp, by rw [Addr.add_lit]; exact kid_row _ _ _ _ _ hn _ _ _ _ _ _ rfl rfl rfl rfl rfl rfl rfl rfl, g1⟩
  | 2, _ => exact ⟨_, A2, c2, rfl, by simp, by rw [Addr.add_lit]; exact kid_row _ _ _ _ _ hn _ _ _ _ _ _ rfl rfl rfl rfl rfl rfl rfl rfl, g2⟩
end Go.Proofs.Ytkhpgejammgolaa

/- Layer 5: is an expression small, by the document; does it name a field. -/
namespace Go.Proofs.Ytkhpgejammgolaa
open Go.RowKit
set_option linter.unusedVariables false
set_option linter.unusedSimpArgs false
set_option maxRecDepth 20000

theorem leftF_ge : ∀ (d : Nat) (e : Ex) (n : Int), 0 ≤ n → -1 ≤ leftF d e n
  | 0, e, n, _ => by show (-1 : Int) ≤ -1; omega
  | d + 1, e, n, h => by
    have hl : ∀ (ks : List Ex) (m : Int), -1 ≤ m → -1 ≤ leftL (leftF d) ks m := by
      intro ks
      induction ks with
      | nil => intro m hm; exact hm
      | cons k ks ih =>
        intro m hm
        unfold leftL
        split
        · exact hm
        · exact ih _ (leftF_ge d k m (by omega))
    exact hl e.kids (n - 1) (by omega)
set_option maxHeartbeats 2000000 in
theorem left_any : ∀ (D : Nat) (d : Nat) (e : Ex) (A : Option Addr) (c : Nat) (n deep : Int) (w : World), d ≤ 6 → deep = d → 0 ≤ n → n ≤ 24 → ExK w D A c e →
    Calls Try.prog 15 #[agX e.op A e.kids.length c e.name e.val, .int .i64 deep, .int .i64 n] w (VMk (.int .i64 (leftF d e n)) w)
  | 0, _, _, _, _, _, _, _, _, _, _, _, h => False.elim h
  | D + 1, d, e, A, c, n, deep, w, hd, hdeep, h0, h1, hx => by
    obtain ⟨h2, h3, h4, h5⟩ := hx
    have ih := left_any D
    unfold maxLen at h3
    have hlen : e.kids.length ≤ 9223372036854775807 := by omega
    have hwn : IntKind.i64.wrap (n - 1) = n - 1 := by rw [IntKind.wrap_i64]; omega
    cases d with
    | zero =>
      subst hdeep
      have hr : leftF 0 e n = -1 := rfl
      rw [hr]
      clear hr ih h5 h3 h4 h2 hd
      go_enter Try.func15, Try.ntmps15
      go_wp2
      go_ret
      exact ⟨rfl, (Below.refl _ _).alloc (Nat.le_refl _) _⟩
    | succ d' =>
      have hm : leftF (d' + 1) e n = leftL (leftF d') e.kids (n - 1) := rfl
      rw [hm]
      have hwd : IntKind.i64.wrap (deep - 1) = deep - 1 := by rw [IntKind.wrap_i64]; omega
      have hdp : ¬ deep < 1 := by omega
      have HIH := Lib.hid (fun e A c n W (hx : ExK w D A c e) (hn : 0 ≤ n) (hn4 : n ≤ 24) (hB : Below w.heap.size w W) => ih d' e A c n (deep - 1) W (by omega) (by omega) hn hn4 (hx.below hB (Nat.le_refl _)))
      have H5 := Lib.hid h5
      have HD := Lib.hid (And.intro hd hdeep)
      clear hm ih h5 hd hdeep h2 h3 h4
      generalize e.kids = ks at *
      generalize e.op = eop at *
      generalize e.name = enm at *
      generalize e.val = ev at *
      have hbx := Lib.hid (Kid_new w eop A ks.length c enm ev)
      go_enter Try.func15, Try.ntmps15
      go_wp2
      go_loopw [2, 7] (fun nv i wr => ∃ (k : Nat) (m : Int), k ≤ ks.length ∧ nv = .int .i64 m ∧ i = .int .i64 k ∧ leftL (leftF d') (ks.drop k) m = leftL (leftF d') ks (n - 1) ∧ -1 ≤ m ∧ m ≤ 24 ∧ Below w.heap.size w wr ∧ wr.cell? ⟨w.heap.size, 1, none⟩ = some (.slice A ks.length c)) (fun _ i _ => ks.length - (intOf i).toNat)
      case atStart => exact ⟨0, n - 1, Nat.zero_le _, rfl, rfl, rfl, by omega, by omega, (Below.refl _ _).alloc (Nat.le_refl _) _, hbx.out.2.1⟩
      case round =>
        obtain ⟨k, m, hk, rfl, rfl, hm, hm0, hm4, hb, hc⟩ := hrel
        by_cases hlt : k < ks.length
        · by_cases hp : 0 ≤ m
          · obtain ⟨ad, A', c', rfl, hbl, hkid, hsub⟩ := H5.out k hlt
            obtain ⟨q0, q1, q2, q3, q4, q5, q6, q7⟩ := hkid.below hb (by rw [block_add]; exact hbl)
            have hcall := HIH.out ks[k] A' c' m wr hsub hp hm4 hb
            have hdr := leftL_drop (leftF d') ks k hlt m hp
            have hle := leftF_le d' ks[k] m
            have hge := leftF_ge d' ks[k] m hp
            rw [hdr] at hm
            generalize leftF d' ks[k] m = m' at hcall hm hle hge
            generalize ks[k].op = ko at q0 hcall
            generalize ks[k].name = kn at q2 hcall
            generalize ks[k].val = ky at q3 q4 q5 q6 q7 hcall
            generalize ks[k].kids.length = kl at q1 hcall
            have HC := Lib.hid hcall
            have HM := Lib.hid hm
            have hcl := World.block_lt_of_cell? wr _ hc
            have hltI : (k : Int) < (ks.length : Int) := by omega
            clear hcall hm hdr hkid hsub
            go_wp2_with (go_at_call 15; refine HC.out.mono ?_; rintro e w2 ⟨rfl, hb2⟩)
            go_roundw
            case rel => exact ⟨k + 1, m', by omega, rfl, by go_num, HM.out, hge, by omega, hb.trans (hb2.mono hb.size), keepc hb2 hcl hc⟩
            case measure => simp [intOf]; omega
          · have hr : m = leftL (leftF d') ks (n - 1) := by rw [← hm, leftL_neg _ _ _ (by omega)]
            have HR := Lib.hid hr
            have hltI : (k : Int) < (ks.length : Int) := by omega
            clear hr hm
            go_wp2
            go_ret
            exact ⟨ret_int HR.out, hb⟩
        · obtain rfl : k = ks.length := by omega
          have hr : m = leftL (leftF d') ks (n - 1) := by rw [← hm, List.drop_length]; rfl
          have HR := Lib.hid hr
          clear hr hm
          go_wp2
          go_ret
          exact ⟨ret_int HR.out, hb⟩
theorem rSmall_any (D : Nat) (e : Ex) (A : Option Addr) (c : Nat) (w : World) (hx : ExK w D A c e) : Calls Try.prog 7 #[agX e.op A e.kids.length c e.name e.val] w (VMk (.bool (smallX e)) w) := by
  have hl := fun o => left_any D 6 e A c 24 6 (w.alloc o) (by omega) (by decide) (by decide) (by decide) (hx.below ((Below.refl w.heap.size w).alloc (Nat.le_refl _) o) (Nat.le_refl _))
  have hs : smallX e = decide (0 ≤ leftF 6 e 24) := rfl
  rw [hs]
  clear hs hx
  generalize leftF 6 e 24 = m at *
  generalize e.kids.length = n at *
  generalize e.op = eop at *
  generalize e.name = enm at *
  generalize e.val = ev at *
  have HL := Lib.hid hl
  clear hl
  go_enter Try.func7, Try.ntmps7
  go_wp2_with (go_at_call 15; refine (HL.out _).mono ?_; rintro e w1 ⟨rfl, hb1⟩)
  go_ret
  exact ⟨rfl, ((Below.refl _ _).alloc (Nat.le_refl _) _).trans (hb1.mono (by simp))⟩
end Go.Proofs.Ytkhpgejammgolaa

/- Layer 5: ExprLazy. (Made by gen/genlazy.py.) -/
namespace Go.Proofs.Ytkhpgejammgolaa
open Go.RowKit
set_option linter.unusedVariables false
set_option linter.unusedSimpArgs false
set_option maxRecDepth 20000

/-- a value's block -/
def Vb5 (W : World) (b : Nat) : Prop := ∃ cs, W.heap[b]? = some (.cells cs 25 (0, 0)) ∧ cs.size = 5
theorem Vb5.below {W W' : World} {b : Nat} (h : Vb5 W b) (hb : Below W.heap.size W W') : Vb5 W' b := let ⟨cs, h1, h2⟩ := h; ⟨cs, (hb.block b (Array.getElem?_eq_some_iff.1 h1).1).trans h1, h2⟩
theorem Vb5.open {W : World} {b : Nat} (h : Vb5 W b) : ∃ u0 u1 u2 u3 u4, W.cell? ⟨b, 0, none⟩ = some u0 ∧ W.cell? ⟨b, 1, none⟩ = some u1 ∧ W.cell? ⟨b, 2, none⟩ = some u2 ∧ W.cell? ⟨b, 3, none⟩ = some u3 ∧ W.cell? ⟨b, 4, none⟩ = some u4 ∧ (∀ j, W.frozen? ⟨b, j, none⟩ = false) := by
  obtain ⟨cs, h1, h2⟩ := h
  have hat : ∀ (j : Nat) (hj : j < 5), W.cell? ⟨b, j, none⟩ = some (cs[j]'(by omega)) := fun j hj => by
    have := cell_of_row W b j _ _ (0, 0) h1
    rw [this, Array.getElem?_eq_getElem (by omega)]
  exact ⟨_, _, _, _, _, hat 0 (by omega), hat 1 (by omega), hat 2 (by omega), hat 3 (by omega), hat 4 (by omega), fun j => by unfold World.frozen?; simp only [h1]; simp⟩
theorem btl {a b c : World} (h : Below a.heap.size a b) (k : Below b.heap.size b c) : Below a.heap.size a c := h.trans (k.mono h.size)
/-- what stands while the law's expressions are built -/
structure LzA (w : World) (FA : Option Addr) (fn FC : Nat) (VA : Option Addr) (vn VC : Nat) (op : Int) (A : Option Addr) (n c : Nat) (nm : ByteArray) (ev : Vl) (b7 : Nat) (v : Vl) (bz gz : Nat) (W : World) : Prop where
  sb : SB w FA fn FC VA vn VC op A n c nm ev W
  v7 : Bx W b7 v
  z : CellsX W bz 8 (some ⟨gz, 0, none⟩) 2 2 ⟨#[]⟩ vZero
theorem LzA.below {w : World} {FA : Option Addr} {fn FC : Nat} {VA : Option Addr} {vn VC : Nat} {op : Int} {A : Option Addr} {n c : Nat} {nm : ByteArray} {ev : Vl} {b7 : Nat} {v : Vl} {bz gz : Nat} {W W' : World} (h : LzA w FA fn FC VA vn VC op A n c nm ev b7 v bz gz W) (hb : Below W.heap.size W W') : LzA w FA fn FC VA vn VC op A n c nm ev b7 v bz gz W' :=
  ⟨h.sb.below hb, h.v7.below hb, h.z.below hb⟩
theorem bel_atL {w : World} {FA : Option Addr} {fn FC : Nat} {VA : Option Addr} {vn VC : Nat} {op : Int} {A : Option Addr} {n c : Nat} {nm : ByteArray} {ev : Vl} {b7 : Nat} {v : Vl} {bz gz : Nat} {W : World} {o : Obj} (h : LzA w FA fn FC VA vn VC op A n c nm ev b7 v bz gz (W.alloc o)) : Below W.heap.size W (W.alloc o) := alloc1 W o
theorem two_atL {w : World} {FA : Option Addr} {fn FC : Nat} {VA : Option Addr} {vn VC : Nat} {op : Int} {A : Option Addr} {n c : Nat} {nm : ByteArray} {ev : Vl} {b7 : Nat} {v : Vl} {bz gz : Nat} {W : World} {A0 A1 : Option Addr} {c0 c1 : Nat} (e0 e1 : Ex) (o : Int)
    (h : LzA w FA fn FC VA vn VC op A n c nm ev b7 v bz gz (W.alloc (row2 e0.op A0 e0.kids.length c0 e0.name e0.val e1.op A1 e1.kids.length c1 e1.name e1.val))) (h0 : ExE W A0 c0 e0) (h1 : ExE W A1 c1 e1) :
    ExE (W.alloc (row2 e0.op A0 e0.kids.length c0 e0.name e0.val e1.op A1 e1.kids.length c1 e1.name e1.val)) (some ⟨W.heap.size, 0, none⟩) 2 (opX o [e0, e1]) := ExE.two o h0 h1
theorem three_atL {w : World} {FA : Option Addr} {fn FC : Nat} {VA : Option Addr} {vn VC : Nat} {op : Int} {A : Option Addr} {n c : Nat} {nm : ByteArray} {ev : Vl} {b7 : Nat} {v : Vl} {bz gz : Nat} {W : World} {A0 A1 A2 : Option Addr} {c0 c1 c2 : Nat} (e0 e1 e2 : Ex) (o : Int)
    (h : LzA w FA fn FC VA vn VC op A n c nm ev b7 v bz gz (W.alloc (row3 e0.op A0 e0.kids.length c0 e0.name e0.val e1.op A1 e1.kids.length c1 e1.name e1.val e2.op A2 e2.kids.length c2 e2.name e2.val))) (h0 : ExE W A0 c0 e0) (h1 : ExE W A1 c1 e1) (h2 : ExE W A2 c2 e2) :
    ExE (W.alloc (row3 e0.op A0 e0.kids.length c0 e0.name e0.val e1.op A1 e1.kids.length c1 e1.name e1.val e2.op A2 e2.kids.length c2 e2.name e2.val)) (some ⟨W.heap.size, 0, none⟩) 3 (opX o [e0, e1, e2]) := ExE.three o h0 h1 h2
theorem vbB {wr W : World} {u0 u1 u2 u3 u4 : Value} (h : Below wr.heap.size wr (W.alloc (.cells #[u0, u1, u2, u3, u4] 25))) : Vb5 (W.alloc (.cells #[u0, u1, u2, u3, u4] 25)) W.heap.size := ⟨_, heap_alloc_new _ _, rfl⟩
theorem same_self (v : Vl) : sameV v v = true := by unfold sameV; simp
theorem ok5_con {d : Nat} {v : Vl} (h : okV v) : okX (d + 1) (conX v) := ⟨h, show in64 1 by unfold in64; omega, fun k hk => by cases hk⟩
theorem ok5_op {d : Nat} {o : Int} {ks : List Ex} (ho : in64 o) (h : ∀ k ∈ ks, okX d k) : okX (d + 1) (opX o ks) := ⟨ok_zero, ho, h⟩
theorem ok5_two {d : Nat} {o : Int} {a b : Ex} (ho : in64 o) (ha : okX d a) (hb : okX d b) : okX (d + 1) (opX o [a, b]) := ok5_op ho fun k hk => by
  rcases List.mem_cons.1 hk with rfl | hk
  · exact ha
  · rcases List.mem_cons.1 hk with rfl | hk
    · exact hb
    · cases hk
end Go.Proofs.Ytkhpgejammgolaa

/- Layer 5: does an expression name a field, by the law; ExprFields by definition. -/
namespace Go.Proofs.Ytkhpgejammgolaa
open Go.RowKit
set_option linter.unusedVariables false
set_option linter.unusedSimpArgs false
set_option maxRecDepth 20000

theorem endV_err (r : Vl × Int) : (endV r).2 = r.2 := by
  unfold endV
  split
  · rename_i h; exact h.symm
  · rfl
theorem endV_bad (err : Int) (h : err ≠ 0) : endV (vZero, err) = (vZero, err) := by unfold endV; rw [if_neg h]
theorem evalP_end (e : Ex) (fs : List Fd) (vs : List Vl) : evalP e fs vs = endV (evalX e fs vs) := by
  unfold evalP evalX
  by_cases h0 : (checkX e fs).2 ≠ 0
  · rw [if_pos h0, if_pos h0, endV_bad _ h0]
  · rw [if_neg h0, if_neg h0]
    cases fitX fs vs with
    | true => rw [if_pos rfl, if_pos rfl]
    | false => rw [if_neg (by decide), if_neg (by decide), endV_bad _ (by decide)]
theorem evalP_field (e : Ex) (fs : List Fd) (vs : List Vl) (f : Fd) (v : Vl) (hg : goodV v = true) (hk : v.k = f.kind) (hu : smallX e = true → usesX 6 e f.name = false) (hx : (evalP e fs vs).2 ≠ 1) : evalP e (fs ++ [f]) (vs ++ [v]) = evalP e fs vs := by
  rw [evalP_end, endV_err] at hx
  rw [evalP_end, evalP_end, evalX_field e fs vs f v hg hk hu hx]

set_option maxHeartbeats 1000000 in
theorem uses_any (nm : ByteArray) : ∀ (D d : Nat) (e : Ex) (A : Option Addr) (c : Nat) (w : World), ExK w D A c e → deepX d e →
    Calls Try.prog 8 #[agX e.op A e.kids.length c e.name e.val, .string nm] w (VMk (.bool (usesX d e nm)) w)
  | 0, _, _, _, _, _, h, _ => False.elim h
  | D + 1, 0, _, _, _, _, _, h => False.elim h
  | D + 1, d + 1, e, A, c, w, hx, hdp => by
    obtain ⟨h2, h3, h4, h5⟩ := hx
    have ih := uses_any nm D
    unfold maxLen at h3
    have hlen : e.kids.length ≤ 9223372036854775807 := by omega
    have hu : usesX (d + 1) e nm = ((e.name.toList == nm.toList) || e.kids.any fun k => usesX d k nm) := rfl
    rw [hu]
    have HIH := Lib.hid (fun (j : Nat) (hj : j < e.kids.length) A' c' W (hx : ExK w D A' c' e.kids[j]) (hB : Below w.heap.size w W) => ih d e.kids[j] A' c' W (hx.below hB (Nat.le_refl _)) (hdp _ (List.getElem_mem hj)))
    have H5 := Lib.hid h5
    clear hu ih h5 hdp h2 h3 h4
    generalize e.kids = ks at *
    generalize e.op = eop at *
    generalize e.name = enm at *
    generalize e.val = ev at *
    have hbx := Lib.hid (Kid_new w eop A ks.length c enm ev)
    rcases hn : (enm.toList == nm.toList) with _ | _
    · rw [Bool.false_or]
      have hno : ∀ k (hk : k < ks.length), usesX d ks[k] nm = true → (ks.any fun k => usesX d k nm) = true := fun k hk h => List.any_eq_true.2 ⟨_, List.getElem_mem hk, h⟩
      have hall : (∀ (j : Nat) (hj : j < ks.length), usesX d ks[j] nm = false) → (ks.any fun k => usesX d k nm) = false := fun h => by
        rw [← Bool.not_eq_true, List.any_eq_true]
        rintro ⟨x, hx, hu⟩
        obtain ⟨j, hj, rfl⟩ := List.getElem_of_mem hx
        rw [h j hj] at hu
        cases hu
      have HNO := Lib.hid hno
      have HALL := Lib.hid hall
      clear hno hall
      go_enter Try.func8, Try.ntmps8
      go_wp2
      go_loopw [5] (fun i wr => ∃ k : Nat, k ≤ ks.length ∧ i = .int .i64 k ∧ (∀ (j : Nat) (hj : j < ks.length), j < k → usesX d ks[j] nm = false) ∧ Below w.heap.size w wr ∧ wr.cell? ⟨w.heap.size, 1, none⟩ = some (.slice A ks.length c)) (fun i _ => ks.length - (intOf i).toNat)
      case atStart => exact ⟨0, Nat.zero_le _, rfl, fun j hj h => absurd h (Nat.not_lt_zero _), (Below.refl _ _).alloc (Nat.le_refl _) _, hbx.out.2.1⟩
      case round =>
        obtain ⟨k, hk, rfl, hdone, hb, hc⟩ := hrel
        by_cases hlt : k < ks.length
        · obtain ⟨ad, A', c', rfl, hbl, hkid, hsub⟩ := H5.out k hlt
          obtain ⟨q0, q1, q2, q3, q4, q5, q6, q7⟩ := hkid.below hb (by rw [block_add]; exact hbl)
          have hcall := HIH.out k hlt A' c' wr hsub hb
          have hnext : usesX d ks[k] nm = false → ∀ (j : Nat) (hj : j < ks.length), j < k + 1 → usesX d ks[j] nm = false := fun h j hj hjk => by
            by_cases e : j < k
            · exact hdone j hj e
            · obtain rfl : j = k := by omega
              exact h
          have hyes := HNO.out k hlt
          generalize usesX d ks[k] nm = u at hcall hnext hyes
          generalize ks[k].op = ko at q0 hcall
          generalize ks[k].name = kn at q2 hcall
          generalize ks[k].val = ky at q3 q4 q5 q6 q7 hcall
          generalize ks[k].kids.length = kl at q1 hcall
          have HC := Lib.hid hcall
          have hcl := World.block_lt_of_cell? wr _ hc
          have hltI : (k : Int) < (ks.length : Int) := by omega
          rcases u with _ | _
          · have HN := Lib.hid (hnext rfl)
            clear hcall hkid hsub hnext hyes hdone
            go_wp2_with (go_at_call 8; refine HC.out.mono ?_; rintro e w2 ⟨rfl, hb2⟩)
            go_roundw
            case rel => exact ⟨k + 1, by omega, by go_num, HN.out, hb.trans (hb2.mono hb.size), keepc hb2 hcl hc⟩
            case measure => simp [intOf]; omega
          · have HY := Lib.hid (hyes rfl)
            clear hcall hkid hsub hnext hyes hdone
            go_wp2_with (go_at_call 8; refine HC.out.mono ?_; rintro e w2 ⟨rfl, hb2⟩)
            go_ret
            exact ⟨ret_bool HY.out.symm, hb.trans (hb2.mono hb.size)⟩
        · have HA := Lib.hid (HALL.out fun j hj => hdone j hj (by omega))
          have hltI : ¬ (k : Int) < (ks.length : Int) := by omega
          clear hdone
          go_wp2
          go_ret
          exact ⟨ret_bool HA.out.symm, hb⟩
    · rw [Bool.true_or]
      go_enter Try.func8, Try.ntmps8
      go_wp2
      go_ret
      exact ⟨rfl, (Below.refl _ _).alloc (Nat.le_refl _) _⟩
end Go.Proofs.Ytkhpgejammgolaa

/- Layer 5: rows of structs that are copied behind one another. -/
namespace Go.Proofs.Ytkhpgejammgolaa
open Go.RowKit
set_option linter.unusedVariables false
set_option linter.unusedSimpArgs false
set_option maxRecDepth 20000

/-- the slice value y holds m elements of so many cells: news -/
def RowS (w : World) (size : Nat) (y : Value) (m : Nat) (news : List Value) : Prop :=
  ∃ A c, y = .slice A m c ∧ news.length = m * size ∧ (A = none → m = 0 ∧ c = 0) ∧ ∀ a, A = some a → ∀ j u, news[j]? = some u → w.cell? (a.add j) = some u
theorem RowS.below {w w' : World} {size : Nat} {y : Value} {m : Nat} {news : List Value} (h : RowS w size y m news) (hb : Below w.heap.size w w') : RowS w' size y m news := by
  obtain ⟨A, c, e, h1, h2, h3⟩ := h
  refine ⟨A, c, e, h1, h2, fun a ha j u hj => ?_⟩
  have h4 := h3 a ha j u hj
  have hl := World.block_lt_of_cell? w _ h4
  exact (hb.cell hl).trans h4
section
variable {P : Program} {w : World}
theorem run_append_rows (base : Nat) (t ty e : TypeId) (i : TypeInfo) (z : Value) (size bytes : Nat) (ht : P.underlying t = some (.slice e)) (hi : P.info? e = some i) (hz : i.zero = some z)
    (hsize : i.size = size) (hby : i.bytes = bytes) (hzs : z.cells.size = size) (hpos : 0 < size)
    (v : Value) (n : Nat) (xs : List Value) (hown : w.ownsRow base e size v n xs)
    (y : Value) (m : Nat) (news : List Value) (hr : RowS w size y m news) (h1 : ∀ u ∈ news, u.oneCell' = true)
    (h63 : n + m ≤ maxLen) (hbytes : (n + m) * bytes ≤ 140737488355328) (hbase : base ≤ w.heap.size) :
    ∃ v' w', (Builtin.append_ #[t, t] ty #[v, y]).run P w = .ok v' w' ∧ w'.ownsRow base e size v' (n + m) (xs ++ news) ∧ w.grownBy w' v.ownBlock ∧
      (v'.ownBlock = v.ownBlock ∨ v'.ownBlock = some w.heap.size) := by
  obtain ⟨A, c, rfl, hl, hn, hx⟩ := hr
  rcases A with _ | ad
  · obtain ⟨rfl, rfl⟩ := hn rfl
    have : news = [] := List.eq_nil_of_length_eq_zero (by omega)
    subst this
    exact ⟨v, w, run_append_nothing w base t ty e i size ht hi v n xs hown 0, by simpa using hown, World.grownBy.refl w _, .inl rfl⟩
  · obtain ⟨v', w', hrun, h2, h3, _, h5⟩ := run_append_own_at (P := P) w base t ty e i z size bytes ht hi hz hsize hby hzs hpos v n xs hown ad m c news hl (hx ad rfl) h1 h63 hbytes hbase
    exact ⟨v', w', hrun, h2, h3, h5⟩
/-- .. as a step of a region that draws its order -/
theorem step_append_rows {ops : Array Oper} {o : Oper} {a : Act} {K : Act → World → Prop} {Q : Exit → Act → World → Prop} {E : Prop}
    (hgd : o.guard = none) (s x : Operand) (t : TypeId)
    (ho : o.op = .call { callee := .builtin .append, args := #[s, x], argTypes := #[t, t] })
    (base : Nat) (e : TypeId) (i : TypeInfo) (z : Value) (size bytes : Nat) (ht : P.underlying t = some (.slice e)) (hi : P.info? e = some i) (hz : i.zero = some z)
    (hsize : i.size = size) (hby : i.bytes = bytes) (hzs : z.cells.size = size) (hpos : 0 < size)
    (v : Value) (n : Nat) (xs : List Value) (hs : a.eval s = v) (hown : w.ownsRow base e size v n xs)
    (y : Value) (m : Nat) (news : List Value) (hx : a.eval x = y) (hr : RowS w size y m news) (h1 : ∀ u ∈ news, u.oneCell' = true)
    (h63 : n + m ≤ maxLen) (hbytes : (n + m) * bytes ≤ 140737488355328) (hbase : base ≤ w.heap.size)
    (h : ∀ v' w', w'.ownsRow base e size v' (n + m) (xs ++ news) → w.grownBy w' v.ownBlock → (v'.ownBlock = v.ownBlock ∨ v'.ownBlock = some w.heap.size) → K (a.put o.dst v') w') :
    if Region.wanted o (yielded ops a.tmps) = true then Oper.wp P o a w K Q else E := by
  have hw : Region.wanted o (yielded ops a.tmps) = true := by simp [Region.wanted, hgd]
  rw [if_pos hw]
  obtain ⟨v', w', hrun, h2, h3, h5⟩ := run_append_rows (P := P) base t o.type e i z size bytes ht hi hz hsize hby hzs hpos v n xs hown y m news hr h1 h63 hbytes hbase
  unfold Oper.wp execOp
  simp only [ho, resolve, invoke, builtin, Sem.run_bind, Sem.run_pure, Result.andThen_ok, List.map_toArray, List.map_cons, List.map_nil, hs, hx, hrun]
  exact h v' w' h2 h3 h5
end
/-- a field's, a value's cells -/
structure Fx8 where
  f : Fd
  A : Option Addr
  n : Nat
  c : Nat
  y : Vl
def Fx8.cells (q : Fx8) : List Value := [.string q.f.name, .int .i64 q.f.kind, .slice q.A q.n q.c, .int .i64 q.y.k, .int .i64 q.y.i, .bool q.y.b, .string q.y.s, .float .f64 q.y.n]
def vcells (y : Vl) : List Value := [.int .i64 y.k, .int .i64 y.i, .bool y.b, .string y.s, .float .f64 y.n]
theorem flat_len {α : Type} (f : α → List Value) (s : Nat) (hf : ∀ x, (f x).length = s) : ∀ l : List α, (l.flatMap f).length = l.length * s
  | [] => by simp
  | x :: l => by rw [List.flatMap_cons, List.length_append, hf, flat_len f s hf l, List.length_cons, Nat.add_mul]; omega
theorem flat_get {α : Type} (f : α → List Value) (s : Nat) (hf : ∀ x, (f x).length = s) : ∀ (l : List α) (j o : Nat) (hj : j < l.length), o < s → (l.flatMap f)[j * s + o]? = (f l[j])[o]?
  | [], j, o, hj, _ => absurd hj (Nat.not_lt_zero _)
  | x :: l, 0, o, _, ho => by rw [List.flatMap_cons, Nat.zero_mul, Nat.zero_add, List.getElem?_append_left (by rw [hf]; exact ho), List.getElem_cons_zero]
  | x :: l, j + 1, o, hj, ho => by
    rw [List.flatMap_cons, List.getElem?_append_right (by rw [hf, Nat.add_mul]; omega), hf, List.getElem_cons_succ, show (j + 1) * s + o - s = j * s + o by rw [Nat.add_mul]; omega]
    exact flat_get f s hf l j o (by simpa using hj) ho
/-- an own row of fields, of values -/
theorem fdk_own {w : World} {base : Nat} {v : Value} {n : Nat} {qs : List Fx8} (h : w.ownsRow base 42 8 v n (qs.flatMap Fx8.cells)) : ∃ A c, v = .slice A (qs.map Fx8.f).length c ∧ FdK w A c (qs.map Fx8.f) := by
  have hl := h.1
  rw [flat_len Fx8.cells 8 (fun _ => rfl)] at hl
  have hn : n = qs.length := by omega
  subst hn
  rcases h.2 with ⟨rfl, h0⟩ | ⟨g, cap, cur, rfl, _, hg, hc, hm, hcs, ht⟩
  · have : qs = [] := List.eq_nil_of_length_eq_zero h0
    subst this
    exact ⟨none, 0, rfl, Nat.le_refl _, Nat.zero_le _, fun _ => rfl, fun j hj => absurd hj (Nat.not_lt_zero _)⟩
  · refine ⟨some ⟨g, 0, none⟩, cap, by rw [List.length_map], by rw [List.length_map]; exact hc, hm, fun h => (by cases h), fun j hj => ?_⟩
    have hjl : j < qs.length := by simpa using hj
    have hat : ∀ o, o < 8 → w.cell? ⟨g, j * 8 + o, none⟩ = (qs[j].cells)[o]? := fun o ho => by
      rw [cell_of_row w g _ _ _ (0, 0) hg, ← flat_get Fx8.cells 8 (fun _ => rfl) qs j o hjl ho, ← ht, List.getElem?_take, if_pos (by omega), Array.getElem?_toList]
    refine ⟨⟨g, 0, none⟩, qs[j].A, qs[j].n, qs[j].c, qs[j].y, rfl, (Array.getElem?_eq_some_iff.1 hg).1, ?_⟩
    rw [Addr.add_lit, Nat.zero_add, List.getElem_map]
    exact ⟨hat 0 (by omega), hat 1 (by omega), hat 2 (by omega), hat 3 (by omega), hat 4 (by omega), hat 5 (by omega), hat 6 (by omega), hat 7 (by omega)⟩
theorem vlk_own {w : World} {base : Nat} {v : Value} {n : Nat} {ys : List Vl} (h : w.ownsRow base 25 5 v n (ys.flatMap vcells)) : ∃ A c, v = .slice A ys.length c ∧ VlK w A c ys := by
  have hl := h.1
  rw [flat_len vcells 5 (fun _ => rfl)] at hl
  have hn : n = ys.length := by omega
  subst hn
  rcases h.2 with ⟨rfl, h0⟩ | ⟨g, cap, cur, rfl, _, hg, hc, hm, hcs, ht⟩
  · have : ys = [] := List.eq_nil_of_length_eq_zero h0
    subst this
    exact ⟨none, 0, rfl, Nat.le_refl _, Nat.zero_le _, fun _ => rfl, fun j hj => absurd hj (Nat.not_lt_zero _)⟩
  · refine ⟨some ⟨g, 0, none⟩, cap, rfl, hc, hm, fun h => (by cases h), fun j hjl => ?_⟩
    have hat : ∀ o, o < 5 → w.cell? ⟨g, j * 5 + o, none⟩ = (vcells ys[j])[o]? := fun o ho => by
      rw [cell_of_row w g _ _ _ (0, 0) hg, ← flat_get vcells 5 (fun _ => rfl) ys j o hjl ho, ← ht, List.getElem?_take, if_pos (by omega), Array.getElem?_toList]
    refine ⟨⟨g, 0, none⟩, rfl, (Array.getElem?_eq_some_iff.1 hg).1, ?_⟩
    rw [Addr.add_lit, Nat.zero_add]
    exact ⟨hat 0 (by omega), hat 1 (by omega), hat 2 (by omega), hat 3 (by omega), hat 4 (by omega)⟩
end Go.Proofs.Ytkhpgejammgolaa

/- Layer 5: rows of fields, of values as what is copied. -/
namespace Go.Proofs.Ytkhpgejammgolaa
open Go.RowKit
set_option linter.unusedVariables false
set_option linter.unusedSimpArgs false
set_option maxRecDepth 20000

instance : Inhabited Fd := ⟨⟨⟨#[]⟩, 0⟩⟩
theorem fx_one (qs : List Fx8) : ∀ u ∈ qs.flatMap Fx8.cells, u.oneCell' = true := by
  intro u hu
  obtain ⟨q, -, hu⟩ := List.mem_flatMap.1 hu
  simp only [Fx8.cells, List.mem_cons, List.not_mem_nil, or_false] at hu
  rcases hu with rfl | rfl | rfl | rfl | rfl | rfl | rfl | rfl <;> rfl
theorem vx_one (ys : List Vl) : ∀ u ∈ ys.flatMap vcells, u.oneCell' = true := by
  intro u hu
  obtain ⟨q, -, hu⟩ := List.mem_flatMap.1 hu
  simp only [vcells, List.mem_cons, List.not_mem_nil, or_false] at hu
  rcases hu with rfl | rfl | rfl | rfl | rfl <;> rfl
/-- cells by their places -/
theorem flat_all {α : Type} (f : α → List Value) (s : Nat) (hs : 0 < s) (hf : ∀ x, (f x).length = s) (l : List α) (P : Nat → Value → Prop) (h : ∀ (k o : Nat) (hk : k < l.length) (ho : o < s), P (k * s + o) ((f l[k])[o]'(by rw [hf]; exact ho))) : ∀ j u, (l.flatMap f)[j]? = some u → P j u := by
  intro j u hj
  have hlt := (List.getElem?_eq_some_iff.1 hj).1
  rw [flat_len f s hf] at hlt
  have hk : j / s < l.length := by rw [Nat.div_lt_iff_lt_mul hs]; exact hlt
  have ho : j % s < s := Nat.mod_lt _ hs
  have e : j / s * s + j % s = j := by rw [Nat.mul_comm]; exact Nat.div_add_mod j s
  have h2 := flat_get f s hf l (j / s) (j % s) hk ho
  rw [e, hj, List.getElem?_eq_getElem (by rw [hf]; exact ho)] at h2
  injection h2 with h2
  have h3 := h (j / s) (j % s) hk ho
  rw [e, ← h2] at h3
  exact h3
theorem add_off (a : Addr) (k o : Nat) (ho : 0 < o) : a.add (k + o) = ⟨(a.add k).block, (a.add k).off + o, none⟩ := by
  unfold Addr.add
  by_cases hk : k = 0
  · subst hk; rw [if_neg (by omega), if_pos rfl]; simp
  · rw [if_neg (by omega), if_neg hk]; simp; omega
theorem fdk_rows {w : World} {A : Option Addr} {c : Nat} {fs : List Fd} (h : FdK w A c fs) : ∃ qs : List Fx8, qs.map Fx8.f = fs ∧ RowS w 8 (.slice A fs.length c) fs.length (qs.flatMap Fx8.cells) := by
  obtain ⟨h1, h2, h3, h4⟩ := h
  have each : ∀ j, j < fs.length → ∃ q : Fx8, q.f = fs[j]! ∧ ∃ ad, A = some ad ∧ Fdp w (ad.add (j * 8)) q.f.name q.f.kind q.A q.n q.c q.y := fun j hj => by
    obtain ⟨ad, A', n', c', y, e1, e2, e3⟩ := h4 j hj
    exact ⟨⟨fs[j]!, A', n', c', y⟩, rfl, ad, e1, by rw [getElem!_pos fs j hj]; exact e3⟩
  have inst : Inhabited Fx8 := ⟨⟨⟨⟨#[]⟩, 0⟩, none, 0, 0, ⟨0, 0, false, ⟨#[]⟩, 0⟩⟩⟩
  obtain ⟨f, hf⟩ := Deep.choose_lt each
  refine ⟨(List.range fs.length).map f, ?_, A, c, rfl, by rw [flat_len Fx8.cells 8 (fun _ => rfl)]; simp, fun e => ⟨?_, h3 e⟩, fun a ha => ?_⟩
  · apply List.ext_getElem
    · simp
    · intro j hj1 hj2
      simp only [List.getElem_map, List.getElem_range]
      rw [(hf j hj2).1, getElem!_pos fs j hj2]
  · have := h3 e; omega
  · refine flat_all Fx8.cells 8 (by decide) (fun _ => rfl) _ (fun j u => w.cell? (a.add j) = some u) fun k o hk ho => ?_
    have hkl : k < fs.length := by simpa using hk
    obtain ⟨ad, e1, g⟩ := (hf k hkl).2
    rw [ha] at e1
    injection e1 with e1
    subst e1
    simp only [List.getElem_map, List.getElem_range]
    obtain ⟨g0, g1, g2, g3, g4, g5, g6, g7⟩ := g
    match o, ho with
    | 0, _ => rw [Nat.add_zero]; exact g0
    | 1, _ => rw [add_off _ _ _ (by decide)]; exact g1
    | 2, _ => rw [add_off _ _ _ (by decide)]; exact g2
    | 3, _ => rw [add_off _ _ _ (by decide)]; exact g3
    | 4, _ => rw [add_off _ _ _ (by decide)]; exact g4
    | 5, _ => rw [add_off _ _ _ (by decide)]; exact g5
    | 6, _ => rw [add_off _ _ _ (by decide)]; exact g6
    | 7, _ => rw [add_off _ _ _ (by decide)]; exact g7
theorem vlk_rows {w : World} {A : Option Addr} {c : Nat} {vs : List Vl} (h : VlK w A c vs) : RowS w 5 (.slice A vs.length c) vs.length (vs.flatMap vcells) := by
  obtain ⟨h1, h2, h3, h4⟩ := h
  refine ⟨A, c, rfl, flat_len vcells 5 (fun _ => rfl) vs, fun e => ⟨by have := h3 e; omega, h3 e⟩, fun a ha => ?_⟩
  refine flat_all vcells 5 (by decide) (fun _ => rfl) _ (fun j u => w.cell? (a.add j) = some u) fun k o hk ho => ?_
  obtain ⟨ad, e1, e2, g0, g1, g2, g3, g4⟩ := h4 k hk
  rw [ha] at e1
  injection e1 with e1
  subst e1
  match o, ho with
  | 0, _ => rw [Nat.add_zero]; exact g0
  | 1, _ => rw [add_off _ _ _ (by decide)]; exact g1
  | 2, _ => rw [add_off _ _ _ (by decide)]; exact g2
  | 3, _ => rw [add_off _ _ _ (by decide)]; exact g3
  | 4, _ => rw [add_off _ _ _ (by decide)]; exact g4
/-- one of them in a new block -/
theorem rows_one (w : World) (cs : List Value) (e : TypeId) (size : Nat) (h : cs.length = size) : RowS (w.alloc (.cells cs.toArray e)) size (.slice (some ⟨w.heap.size, 0, none⟩) 1 1) 1 cs := by
  have hn := heap_alloc_new w (.cells cs.toArray e)
  refine ⟨_, 1, rfl, by omega, fun h => (by cases h), fun a ha j u hj => ?_⟩
  injection ha with ha
  subst ha
  rw [Addr.add_lit, Nat.zero_add, cell_of_row _ _ _ _ _ (0, 0) hn]
  simpa using hj
/-- none of them in a new block -/
theorem own_none (w : World) (e : TypeId) (size : Nat) : (w.alloc (.cells #[] e)).ownsRow w.heap.size e size (.slice (some ⟨w.heap.size, 0, none⟩) 0 0) 0 [] :=
  ⟨by simp, .inr ⟨w.heap.size, 0, #[], rfl, Nat.le_refl _, heap_alloc_new _ _, Nat.le_refl _, Nat.zero_le _, by simp, by simp⟩⟩
end Go.Proofs.Ytkhpgejammgolaa

/- Layer 5: ExprFields. (Made by gen/genfields.py.) -/
namespace Go.Proofs.Ytkhpgejammgolaa
open Go.RowKit
set_option linter.unusedVariables false
set_option linter.unusedSimpArgs false
set_option maxRecDepth 20000

def nmF : ByteArray := ⟨#[97, 32, 110, 97, 109, 101, 32, 116, 104, 97, 116, 32, 105, 115, 32, 98, 101, 121, 111, 110, 100, 32, 115, 105, 120, 116, 101, 101, 110, 32, 98, 121, 116, 101, 115, 44, 32, 97, 110, 100, 32, 105, 110, 32, 110, 111, 32, 101, 120, 112, 114, 101, 115, 115, 105, 111, 110, 32, 116, 104, 97, 116, 32, 105, 115, 32, 114, 101, 97, 100]⟩
abbrev q8 (k : Int) : Fx8 := ⟨⟨nmF, k⟩, none, 0, 0, ⟨0, 0, false, ⟨#[]⟩, 0⟩⟩
theorem fieldinfo : (Try.prog.info? 42).map (fun i => (i.zero, i.size, i.bytes)) = some (some (.agg #[.string ⟨#[]⟩, .int .i64 0, .slice none 0 0, .int .i64 0, .int .i64 0, .bool false, .string ⟨#[]⟩, .float .f64 0]), 8, 96) := by kernel_rfl
theorem valueinfo : (Try.prog.info? 25).map (fun i => (i.zero, i.size, i.bytes)) = some (some (.agg #[.int .i64 0, .int .i64 0, .bool false, .string ⟨#[]⟩, .float .f64 0]), 5, 48) := by kernel_rfl
theorem info5 {P : Program} {e : TypeId} {z : Value} {s b : Nat} (h : (P.info? e).map (fun i => (i.zero, i.size, i.bytes)) = some (some z, s, b)) : ∃ i, P.info? e = some i ∧ i.zero = some z ∧ i.size = s ∧ i.bytes = b := by
  obtain ⟨i, hi, hzz⟩ := Option.map_eq_some_iff.1 h
  simp only [Prod.mk.injEq] at hzz
  exact ⟨i, hi, hzz.1, hzz.2.1, hzz.2.2⟩
theorem own_alloc {w : World} {base e s n : Nat} {v : Value} {xs : List Value} (h : w.ownsRow base e s v n xs) (o : Obj) : (w.alloc o).ownsRow base e s v n xs := by
  obtain ⟨h1, h2⟩ := h
  refine ⟨h1, ?_⟩
  rcases h2 with h2 | ⟨g, cap, cur, e1, e2, e3, e4⟩
  · exact .inl h2
  · exact .inr ⟨g, cap, cur, e1, e2, (Below.heap_alloc w o g (Array.getElem?_eq_some_iff.1 e3).1).trans e3, e4⟩
theorem own_baseF {w : World} {base e s n : Nat} {v : Value} {xs : List Value} (h : w.ownsRow base e s v n xs) : ∀ k, v.ownBlock = some k → base ≤ k := by
  rcases h.2 with ⟨rfl, -⟩ | ⟨g, cap, cur, rfl, hb, -⟩
  · intro k hk; cases hk
  · intro k hk; injection hk with hk; subst hk; exact hb
theorem RowS.grown {w w' : World} {size m gH : Nat} {news : List Value} {row : Option Nat} (h : RowS w size (.slice (some ⟨gH, 0, none⟩) 1 1) m news) (hg : w.grownBy w' row) (hne : row ≠ some gH) : RowS w' size (.slice (some ⟨gH, 0, none⟩) 1 1) m news := by
  obtain ⟨A, c, e, h1, h2, h3⟩ := h
  refine ⟨A, c, e, h1, h2, fun a ha j u hj => ?_⟩
  have h4 := h3 a ha j u hj
  have hl := World.block_lt_of_cell? w _ h4
  injection e with e
  subst e
  injection ha with ha
  subst ha
  exact (World.cell?_of_block (hg.block _ hl (by rw [block_add]; intro e; exact hne e.symm))).trans h4
theorem grown_belowF {wb w w' : World} {row : Option Nat} (h : Below wb.heap.size wb w) (hg : w.grownBy w' row) (hr : ∀ k, row = some k → wb.heap.size ≤ k) : Below wb.heap.size wb w' := h.grown hg h.size hr
theorem own_at {wb W : World} {e size : Nat} (h : Below wb.heap.size wb (W.alloc (.cells #[] e))) (hs : wb.heap.size ≤ W.heap.size) : (W.alloc (.cells #[] e)).ownsRow wb.heap.size e size (.slice (some ⟨W.heap.size, 0, none⟩) 0 0) 0 [] :=
  ⟨by simp, .inr ⟨W.heap.size, 0, #[], rfl, hs, heap_alloc_new _ _, Nat.le_refl _, Nat.zero_le _, by simp, by simp⟩⟩
theorem hne_of (a g n c : Nat) (h : a ≠ g) : (Value.slice (some ⟨a, 0, none⟩) n c).ownBlock ≠ some g := by
  intro e
  injection e with e
  exact h e
theorem rows_at {wb W : World} {cs : List Value} {e size : Nat} (h : Below wb.heap.size wb (W.alloc (.cells cs.toArray e))) (hl : cs.length = size) : RowS (W.alloc (.cells cs.toArray e)) size (.slice (some ⟨W.heap.size, 0, none⟩) 1 1) 1 cs := rows_one W cs e size hl
set_option maxHeartbeats 2000000 in
theorem ExprFields_any (FA : Option Addr) (FC : Nat) (fs : List Fd) (VA : Option Addr) (VC : Nat) (vs : List Vl) (D : Nat) (e : Ex) (A : Option Addr) (c : Nat) (y : Vl) (w : World) (hx : ExK w D A c e) (hf : FdK w FA FC fs) (hv : VlK w VA VC vs) (hok : okX 6 e) (hvs : ∀ v ∈ vs, okV v) (hy : okV y) (awk : ∀ W, Calls Try.prog 9 #[] W (VMk (.bool true) W)) :
    Calls Try.prog 3 #[agX e.op A e.kids.length c e.name e.val, .agg #[.slice FA fs.length FC, .slice VA vs.length VC], agV y] w (VMk (.bool true) w) := by
  have hsf := fun (w : World) (a : Addr) (m : Mode) (b : Nat) => run_store Try.prog w a (.float .f64 b) m rfl
  have FEW := Lib.hid (fun W (hb : Below w.heap.size w W) => few5_any FA FC fs VA VC vs W (hf.below hb (Nat.le_refl _)) (hv.below hb (Nat.le_refl _)))
  have SML := Lib.hid (fun W (hb : Below w.heap.size w W) => rSmall_any D e A c W (hx.below hb (Nat.le_refl _)))
  have USE := Lib.hid (fun (hs : smallX e = true) (nm : ByteArray) W (hb : Below w.heap.size w W) => uses_any nm D 6 e A c W (hx.below hb (Nat.le_refl _)) ((smallX_iff e).1 hs).1)
  have hev := (fun W (hb : Below w.heap.size w W) => Eval_any FA FC fs VA VC vs D e A c W (hx.below hb (Nat.le_refl _)) (hf.below hb (Nat.le_refl _)) (hv.below hb (Nat.le_refl _)) hok hvs)
  have EV2 := Lib.hid (fun (fs' : List Fd) (vs' : List Vl) (FA' VA' : Option Addr) (FC' VC' : Nat) W (hb : Below w.heap.size w W) (hf' : FdK W FA' FC' fs') (hv' : VlK W VA' VC' vs') (ho : ∀ v ∈ vs', okV v) => Eval_any FA' FC' fs' VA' VC' vs' D e A c W (hx.below hb (Nat.le_refl _)) hf' hv' hok ho)
  have GD := Lib.hid (fun W => rGood_val y W)
  have PURE := Lib.hid (fun (f : Fd) (hg : goodV y = true) (hk : y.k = f.kind) (hu : smallX e = true → usesX 6 e f.name = false) (hx : (evalP e fs vs).2 ≠ 1) => evalP_field e fs vs f y hg hk hu hx)
  have AWK := Lib.hid awk
  have HK := Lib.hid (And.intro hf (And.intro hv (And.intro hvs hy)))
  clear awk hx hf hv hok hvs hy
  generalize evalP e fs vs = r at hev PURE
  obtain ⟨a, x⟩ := r
  have EV := Lib.hid hev
  clear hev
  generalize hsm : smallX e = sm at SML USE PURE
  generalize hev0 : e = e0 at EV2 PURE USE
  subst hev0
  obtain ⟨eop, hop⟩ : ∃ o, o = e.op := ⟨_, rfl⟩
  obtain ⟨enm, hnm⟩ : ∃ o, o = e.name := ⟨_, rfl⟩
  obtain ⟨ev, hvl⟩ : ∃ o, o = e.val := ⟨_, rfl⟩
  obtain ⟨n, hkl⟩ : ∃ o, o = e.kids.length := ⟨_, rfl⟩
  rw [← hop, ← hnm, ← hvl, ← hkl] at SML EV ⊢
  simp only [← hop, ← hnm, ← hvl, ← hkl] at USE EV2
  clear hop hnm hvl hkl hsm
  have hbn : SB w FA fs.length FC VA vs.length VC eop A n c enm ev (((w.alloc (bxX eop A n c enm ev)).alloc (.cells #[.slice FA fs.length FC, .slice VA vs.length VC] 31)).alloc (.cells #[.int .i64 y.k, .int .i64 y.i, .bool y.b, .string y.s, .float .f64 y.n] 25)) := (SB.new w FA fs.length FC VA vs.length VC eop A n c enm ev 31).below (alloc1 _ _)
  have hyn := Bx.new ((w.alloc (bxX eop A n c enm ev)).alloc (.cells #[.slice FA fs.length FC, .slice VA vs.length VC] 31)) y
  have hsz : ((w.alloc (bxX eop A n c enm ev)).alloc (.cells #[.slice FA fs.length FC, .slice VA vs.length VC] 31)).heap.size = w.heap.size + 1 + 1 := by simp
  rw [hsz] at hyn
  have S0 := Lib.hid hbn
  have Y0 := Lib.hid hyn
  clear hbn hyn hsz
  go_enter Try.func3, Try.ntmps3
  go_wp2_with fail
  refine (FEW.out _ S0.out.bel).mono ?_
  rintro _ w1 ⟨bb, rfl, hb1, hfew⟩
  have S1 := Lib.hid (S0.out.below hb1)
  have Y1 := Lib.hid (Y0.out.below hb1)
  clear S0 Y0 hb1
  rcases bb with _ | _
  · clear hfew
    go_wp2
    go_ret
    exact ⟨rfl, S1.out.bel⟩
  have hl := hfew rfl
  clear hfew
  have HL := Lib.hid hl
  obtain ⟨hl1, -, -, -⟩ := hl
  obtain ⟨y0, y1, y2, y3, y4⟩ := Y1.out
  have sf := S1.out.f
  have sv := S1.out.v
  by_cases ht : y.s.size ≤ 200
  · have htb : decide ((200 : Int) < (y.s.size : Int)) = false := decide_eq_false (by omega)
    have htI : ¬ (200 : Int) < (y.s.size : Int) := by omega
    by_cases h20 : fs.length = 20
    · have h20b : ((fs.length : Int) == 20) = true := by simp [h20]
      clear ht h20
      go_wp2
      go_ret
      exact ⟨rfl, S1.out.bel⟩
    · have h20b : ((fs.length : Int) == 20) = false := by simp; omega
      clear ht h20
      obtain ⟨d0, d1, d2, d3, d4, d5, d6, d7⟩ := S1.out.ex
      go_wp2_with fail
      refine (EV.out _ S1.out.bel).mono ?_
      rintro _ w2 ⟨rfl, hb2⟩
      clear d0 d1 d2 d3 d4 d5 d6 d7 sf sv y0 y1 y2 y3 y4
      have S2 := Lib.hid ((S1.out.below hb2).below (alloc1 w2 (.cells #[.int .i64 a.k, .int .i64 a.i, .bool a.b, .string a.s, .float .f64 a.n] 25)))
      have Y2 := Lib.hid ((Y1.out.below hb2).below (alloc1 w2 (.cells #[.int .i64 a.k, .int .i64 a.i, .bool a.b, .string a.s, .float .f64 a.n] 25)))
      have A2 := Lib.hid (Bx.new w2 a)
      clear S1 Y1 hb2
      obtain ⟨y0, y1, y2, y3, y4⟩ := Y2.out
      go_wp2_with fail
      generalize w2.alloc (.cells #[.int .i64 a.k, .int .i64 a.i, .bool a.b, .string a.s, .float .f64 a.n] 25) = w3 at *
      generalize w2.heap.size = b7 at *
      rcases hg : goodV y with _ | _
      · have hgd := GD.out
        rw [hg] at hgd
        refine (hgd _).mono ?_
        rintro _ w4 ⟨rfl, hb4⟩
        have S2 := Lib.hid (S2.out.below hb4)
        have Y2 := Lib.hid (Y2.out.below hb4)
        have A2 := Lib.hid (A2.out.below hb4)
        clear hb4
        go_wp2_with fail
        refine (AWK.out _).mono ?_
        rintro _ wf ⟨rfl, hbf⟩
        go_wp2
        go_ret
        exact ⟨rfl, (S2.out.below hbf).bel⟩
      · have hgd := GD.out
        rw [hg] at hgd
        refine (hgd _).mono ?_
        rintro _ w4 ⟨rfl, hb4⟩
        have HG := Lib.hid hg
        clear hg hgd y0 y1 y2 y3 y4
        have S2 := Lib.hid (S2.out.below hb4)
        have Y2 := Lib.hid (Y2.out.below hb4)
        have A2 := Lib.hid (A2.out.below hb4)
        clear hb4
        by_cases hx1 : x = 1
        · subst hx1
          go_wp2_with fail
          refine (AWK.out _).mono ?_
          rintro _ wf ⟨rfl, hbf⟩
          go_wp2
          go_ret
          exact ⟨rfl, (S2.out.below hbf).bel⟩
        · have hxb : (x == 1) = false := by simpa using hx1
          have HX1 := Lib.hid hx1
          clear hx1
          obtain ⟨d0, d1, d2, d3, d4, d5, d6, d7⟩ := S2.out.ex
          go_wp2_with fail
          refine (SML.out _ S2.out.bel).mono ?_
          rintro _ w5 ⟨rfl, hb5⟩
          clear d0 d1 d2 d3 d4 d5 d6 d7
          have S2 := Lib.hid (S2.out.below hb5)
          have Y2 := Lib.hid (Y2.out.below hb5)
          have A2 := Lib.hid (A2.out.below hb5)
          clear hb5
          rcases sm with _ | _
          · have HU := Lib.hid (show false = true → usesX 6 e nmF = false from fun h => by cases h)
            generalize w5 = wk at *
            go_upto_region 7 with fail
            have SK := S2
            have YK := Y2
            obtain ⟨qs, hqs, hrw⟩ := fdk_rows (HK.out.1.below SK.out.bel (Nat.le_refl _))
            have RWS := Lib.hid hrw
            have HQS := Lib.hid hqs
            clear hrw hqs
            obtain ⟨hlf, hlv, -, -⟩ := HL.out
            go_cut [10] from 55 to 64 (fun s10 wx => ∃ rA rC v10, s10 = v10 ∧ v10 = .slice rA (fs.length + 1) rC ∧ Below wk.heap.size wk wx ∧ FdK wx rA rC ((qs ++ [(q8 y.k)]).map Fx8.f))
            case first =>
              have hallx := fun (W : World) (hb : Below wk.heap.size wk W) => (show Below wk.heap.size wk W ∧ W.cell? ⟨w.heap.size + 1, 0, none⟩ = some (.slice FA fs.length FC) ∧ W.cell? ⟨w.heap.size + 1 + 1, 0, none⟩ = some (.int .i64 y.k) from ⟨hb, (SK.out.below hb).f, (YK.out.below hb).1⟩)
              have HALLx := Lib.hid hallx
              clear hallx
              obtain ⟨i1, hi1, hz1, hs1, hb1⟩ := info5 fieldinfo
              refine wp_region_held_drew (S := (fun W => Below wk.heap.size wk W ∧ W.cell? ⟨w.heap.size + 1, 0, none⟩ = some (.slice FA fs.length FC) ∧ W.cell? ⟨w.heap.size + 1 + 1, 0, none⟩ = some (.int .i64 y.k))) (by kernel_rfl) (HALLx.out _ (Below.refl _ _).drew) (fun hHeld => ?_)
              generalize wk.drew = wD at *
              refine wpAnyH_take (i := 1) (oi := ?oi1) (v := ?v1) ?hi1 (by kernel_rfl) (by kernel_rfl) (by kernel_rfl) ?hQ1 (Or.inl ⟨?hw1, ?hy1⟩) (by assumption) ?rest1
              case hi1 => (simp only [List.getElem?_toArray, List.getElem?_cons_succ, List.getElem?_cons_zero]; rfl)
              case hQ1 => exact fun _ _ _ h => h
              case hw1 => rfl
              case hy1 => (intro w hSw; (try dsimp only at hSw); go_simp; try with_reducible rfl)
              (try simp only [Act.put, List.setIfInBounds_toArray, List.set_cons_zero, List.set_cons_succ])
              refine wpAnyH_take (i := 2) (oi := ?oi2) (v := ?v2) ?hi2 (by kernel_rfl) (by kernel_rfl) (by kernel_rfl) ?hQ2 (Or.inl ⟨?hw2, ?hy2⟩) (by assumption) ?rest2
              case hi2 => (simp only [List.getElem?_toArray, List.getElem?_cons_succ, List.getElem?_cons_zero]; rfl)
              case hQ2 => exact fun _ _ _ h => h
              case hw2 => rfl
              case hy2 => (intro w hSw; (try dsimp only at hSw); go_simp; try with_reducible rfl)
              (try simp only [Act.put, List.setIfInBounds_toArray, List.set_cons_zero, List.set_cons_succ])
              refine wpAnyH_take (i := 4) (oi := ?oi3) (v := ?v3) ?hi3 (by kernel_rfl) (by kernel_rfl) (by kernel_rfl) ?hQ3 (Or.inl ⟨?hw3, ?hy3⟩) (by assumption) ?rest3
              case hi3 => (simp only [List.getElem?_toArray, List.getElem?_cons_succ, List.getElem?_cons_zero]; rfl)
              case hQ3 => exact fun _ _ _ h => h
              case hw3 => rfl
              case hy3 => (intro w hSw; (try dsimp only at hSw); go_simp; try with_reducible rfl)
              (try simp only [Act.put, List.setIfInBounds_toArray, List.set_cons_zero, List.set_cons_succ])
              refine wpAnyH_take (i := 5) (oi := ?oi4) (v := ?v4) ?hi4 (by kernel_rfl) (by kernel_rfl) (by kernel_rfl) ?hQ4 (Or.inl ⟨?hw4, ?hy4⟩) (by assumption) ?rest4
              case hi4 => (simp only [List.getElem?_toArray, List.getElem?_cons_succ, List.getElem?_cons_zero]; rfl)
              case hQ4 => exact fun _ _ _ h => h
              case hw4 => rfl
              case hy4 => (intro w hSw; (try dsimp only at hSw); go_simp; try with_reducible rfl)
              (try simp only [Act.put, List.setIfInBounds_toArray, List.set_cons_zero, List.set_cons_succ])
              refine wpAnyH_take (i := 6) (oi := ?oi5) (v := ?v5) ?hi5 (by kernel_rfl) (by kernel_rfl) (by kernel_rfl) ?hQ5 (Or.inl ⟨?hw5, ?hy5⟩) (by assumption) ?rest5
              case hi5 => (simp only [List.getElem?_toArray, List.getElem?_cons_succ, List.getElem?_cons_zero]; rfl)
              case hQ5 => exact fun _ _ _ h => h
              case hw5 => rfl
              case hy5 => (intro w hSw; (try dsimp only at hSw); go_simp; try with_reducible rfl)
              (try simp only [Act.put, List.setIfInBounds_toArray, List.set_cons_zero, List.set_cons_succ])
              refine wpAnyH_take (i := 7) (oi := ?oi6) (v := ?v6) ?hi6 (by kernel_rfl) (by kernel_rfl) (by kernel_rfl) ?hQ6 (Or.inl ⟨?hw6, ?hy6⟩) (by assumption) ?rest6
              case hi6 => (simp only [List.getElem?_toArray, List.getElem?_cons_succ, List.getElem?_cons_zero]; rfl)
              case hQ6 => exact fun _ _ _ h => h
              case hw6 => rfl
              case hy6 => (intro w hSw; (try dsimp only at hSw); go_simp; try with_reducible rfl)
              (try simp only [Act.put, List.setIfInBounds_toArray, List.set_cons_zero, List.set_cons_succ])
              refine wpAnyH_ready (rs := [0, 8]) (by kernel_rfl) (by simp) ?_
              refine AllReadyH.cons (o := ?o7) ?ho7 (fun K hK => ?st7) (AllReadyH.cons (o := ?o8) ?ho8 (fun K hK => ?st8) AllReadyH.nil)
              case ho7 => (simp only [List.getElem?_toArray, List.getElem?_cons_succ, List.getElem?_cons_zero]; rfl)
              case ho8 => (simp only [List.getElem?_toArray, List.getElem?_cons_succ, List.getElem?_cons_zero]; rfl)
              ·
               go_simp
               have hPre := hHeld
               refine hK.out _ _ ?_ (fun hHeld => ?_)
               · (try dsimp only); exact HALLx.out _ (btl hHeld.1 (alloc1 _ _))
               clear hK K
               (try simp only [Act.put, List.setIfInBounds_toArray, List.set_cons_zero, List.set_cons_succ])
               have y_O := own_at (size := 8) hHeld.1 hPre.1.size
               (try simp only [World.size_alloc] at y_O)
               have OE := Lib.hid y_O
               clear y_O hPre
               refine wpAnyH_ready (rs := [3, 8]) (by kernel_rfl) (by simp) ?_
               refine AllReadyH.cons (o := ?o9) ?ho9 (fun K hK => ?st9) (AllReadyH.cons (o := ?o10) ?ho10 (fun K hK => ?st10) AllReadyH.nil)
               case ho9 => (simp only [List.getElem?_toArray, List.getElem?_cons_succ, List.getElem?_cons_zero]; rfl)
               case ho10 => (simp only [List.getElem?_toArray, List.getElem?_cons_succ, List.getElem?_cons_zero]; rfl)
               ·
                refine step_append_rows rfl (.tmp 55) (.tmp 57) 28 rfl wk.heap.size 42 i1 (.agg #[.string ⟨#[]⟩, .int .i64 0, .slice none 0 0, .int .i64 0, .int .i64 0, .bool false, .string ⟨#[]⟩, .float .f64 0]) 8 96 Try.underlying28 hi1 hz1 hs1 hb1 (by rfl) (by decide) _ 0 ([]) rfl OE.out _ fs.length (qs.flatMap Fx8.cells) rfl (RWS.out.below hHeld.1) (fx_one qs) (by unfold maxLen; omega) (by omega) hHeld.1.size ?_
                intro vA wA hownA hgrA hobA
                have hbBA := grown_belowF hHeld.1 hgrA (own_baseF OE.out)
                have OA := Lib.hid hownA
                refine hK.out _ _ ?_ (fun hHeld => ?_)
                · (try dsimp only); exact HALLx.out _ hbBA
                clear hK K
                (try simp only [Act.put, List.setIfInBounds_toArray, List.set_cons_zero, List.set_cons_succ])
                refine wpAnyH_ready (rs := [8]) (by kernel_rfl) (by simp) ?_
                refine AllReadyH.cons (o := ?o11) ?ho11 (fun K hK => ?st11) AllReadyH.nil
                case ho11 => (simp only [List.getElem?_toArray, List.getElem?_cons_succ, List.getElem?_cons_zero]; rfl)
                go_simp
                refine hK.out _ _ ?_ (fun hHeld => ?_)
                · (try dsimp only); exact HALLx.out _ (btl hHeld.1 (alloc1 _ _))
                clear hK K
                (try simp only [Act.put, List.setIfInBounds_toArray, List.set_cons_zero, List.set_cons_succ])
                have y_R := rows_at (cs := Fx8.cells (q8 y.k)) (size := 8) hHeld.1 rfl
                (try simp only [World.size_alloc] at y_R)
                have R8 := Lib.hid y_R
                clear y_R
                have y_A := own_alloc OA.out (.cells (Fx8.cells (q8 y.k)).toArray 42)
                clear OA
                have OA := Lib.hid y_A
                clear y_A
                refine wpAnyH_ready (rs := [9]) (by kernel_rfl) (by simp) ?_
                refine AllReadyH.cons (o := ?o12) ?ho12 (fun K hK => ?st12) AllReadyH.nil
                case ho12 => (simp only [List.getElem?_toArray, List.getElem?_cons_succ, List.getElem?_cons_zero]; rfl)
                refine step_append_rows rfl (.tmp 58) (.tmp 63) 28 rfl wk.heap.size 42 i1 (.agg #[.string ⟨#[]⟩, .int .i64 0, .slice none 0 0, .int .i64 0, .int .i64 0, .bool false, .string ⟨#[]⟩, .float .f64 0]) 8 96 Try.underlying28 hi1 hz1 hs1 hb1 (by rfl) (by decide) _ (0 + fs.length) ([] ++ qs.flatMap Fx8.cells) rfl OA.out _ 1 (Fx8.cells (q8 y.k)) rfl R8.out (fun u hu => fx_one [(q8 y.k)] u (by simpa using hu)) (by unfold maxLen; omega) (by omega) hHeld.1.size ?_
                intro vB wB hownB hgrB hobB
                have hbBB := grown_belowF hHeld.1 hgrB (own_baseF OA.out)
                have OB := Lib.hid hownB
                refine hK.out _ _ ?_ (fun hHeld => ?_)
                · (try dsimp only); exact HALLx.out _ hbBB
                clear hK K
                (try simp only [Act.put, List.setIfInBounds_toArray, List.set_cons_zero, List.set_cons_succ])
                refine wpAnyH_take (i := 10) (oi := ?oi13) (v := ?v13) ?hi13 (by kernel_rfl) (by kernel_rfl) (by kernel_rfl) ?hQ13 (Or.inl ⟨?hw13, ?hy13⟩) (by assumption) ?rest13
                case hi13 => (simp only [List.getElem?_toArray, List.getElem?_cons_succ, List.getElem?_cons_zero]; rfl)
                case hQ13 => exact fun _ _ _ h => h
                case hw13 => rfl
                case hy13 => (intro w hSw; (try dsimp only at hSw); go_simp; try with_reducible rfl)
                (try simp only [Act.put, List.setIfInBounds_toArray, List.set_cons_zero, List.set_cons_succ])
                refine wpAnyH_done (by kernel_rfl) ?_ _
                obtain ⟨rA, rC, re, rk⟩ := fdk_own (qs := qs ++ [(q8 y.k)]) (by have h := OB.out; simp only [List.nil_append, Nat.zero_add] at h; simpa using h)
                have re2 : vB = .slice rA (fs.length + 1) rC := by rw [re, ← HQS.out]; simp
                have RE := Lib.hid re2
                clear re re2
                go_wp2_with fail
                go_meet
                exact ⟨_, _, _, rfl, RE.out, hHeld.1, rk⟩
               ·
                go_simp
                refine hK.out _ _ ?_ (fun hHeld => ?_)
                · (try dsimp only); exact HALLx.out _ (btl hHeld.1 (alloc1 _ _))
                clear hK K
                (try simp only [Act.put, List.setIfInBounds_toArray, List.set_cons_zero, List.set_cons_succ])
                have y_R := rows_at (cs := Fx8.cells (q8 y.k)) (size := 8) hHeld.1 rfl
                (try simp only [World.size_alloc] at y_R)
                have R8 := Lib.hid y_R
                clear y_R
                have y_A := own_alloc OE.out (.cells (Fx8.cells (q8 y.k)).toArray 42)
                clear OE
                have OE := Lib.hid y_A
                clear y_A
                refine wpAnyH_ready (rs := [3]) (by kernel_rfl) (by simp) ?_
                refine AllReadyH.cons (o := ?o14) ?ho14 (fun K hK => ?st14) AllReadyH.nil
                case ho14 => (simp only [List.getElem?_toArray, List.getElem?_cons_succ, List.getElem?_cons_zero]; rfl)
                refine step_append_rows rfl (.tmp 55) (.tmp 57) 28 rfl wk.heap.size 42 i1 (.agg #[.string ⟨#[]⟩, .int .i64 0, .slice none 0 0, .int .i64 0, .int .i64 0, .bool false, .string ⟨#[]⟩, .float .f64 0]) 8 96 Try.underlying28 hi1 hz1 hs1 hb1 (by rfl) (by decide) _ 0 ([]) rfl OE.out _ fs.length (qs.flatMap Fx8.cells) rfl (RWS.out.below hHeld.1) (fx_one qs) (by unfold maxLen; omega) (by omega) hHeld.1.size ?_
                intro vA wA hownA hgrA hobA
                have hbBA := grown_belowF hHeld.1 hgrA (own_baseF OE.out)
                have OA := Lib.hid hownA
                have y_R := R8.out.grown hgrA (hne_of _ _ _ _ (by first | omega | (simp only [World.size_alloc]; done) | (simp only [World.size_alloc]; omega) | (simp; done) | (simp; omega)))
                clear R8
                have R8 := Lib.hid y_R
                clear y_R
                refine hK.out _ _ ?_ (fun hHeld => ?_)
                · (try dsimp only); exact HALLx.out _ hbBA
                clear hK K
                (try simp only [Act.put, List.setIfInBounds_toArray, List.set_cons_zero, List.set_cons_succ])
                refine wpAnyH_ready (rs := [9]) (by kernel_rfl) (by simp) ?_
                refine AllReadyH.cons (o := ?o15) ?ho15 (fun K hK => ?st15) AllReadyH.nil
                case ho15 => (simp only [List.getElem?_toArray, List.getElem?_cons_succ, List.getElem?_cons_zero]; rfl)
                refine step_append_rows rfl (.tmp 58) (.tmp 63) 28 rfl wk.heap.size 42 i1 (.agg #[.string ⟨#[]⟩, .int .i64 0, .slice none 0 0, .int .i64 0, .int .i64 0, .bool false, .string ⟨#[]⟩, .float .f64 0]) 8 96 Try.underlying28 hi1 hz1 hs1 hb1 (by rfl) (by decide) _ (0 + fs.length) ([] ++ qs.flatMap Fx8.cells) rfl OA.out _ 1 (Fx8.cells (q8 y.k)) rfl R8.out (fun u hu => fx_one [(q8 y.k)] u (by simpa using hu)) (by unfold maxLen; omega) (by omega) hHeld.1.size ?_
                intro vB wB hownB hgrB hobB
                have hbBB := grown_belowF hHeld.1 hgrB (own_baseF OA.out)
                have OB := Lib.hid hownB
                refine hK.out _ _ ?_ (fun hHeld => ?_)
                · (try dsimp only); exact HALLx.out _ hbBB
                clear hK K
                (try simp only [Act.put, List.setIfInBounds_toArray, List.set_cons_zero, List.set_cons_succ])
                refine wpAnyH_take (i := 10) (oi := ?oi16) (v := ?v16) ?hi16 (by kernel_rfl) (by kernel_rfl) (by kernel_rfl) ?hQ16 (Or.inl ⟨?hw16, ?hy16⟩) (by assumption) ?rest16
                case hi16 => (simp only [List.getElem?_toArray, List.getElem?_cons_succ, List.getElem?_cons_zero]; rfl)
                case hQ16 => exact fun _ _ _ h => h
                case hw16 => rfl
                case hy16 => (intro w hSw; (try dsimp only at hSw); go_simp; try with_reducible rfl)
                (try simp only [Act.put, List.setIfInBounds_toArray, List.set_cons_zero, List.set_cons_succ])
                refine wpAnyH_done (by kernel_rfl) ?_ _
                obtain ⟨rA, rC, re, rk⟩ := fdk_own (qs := qs ++ [(q8 y.k)]) (by have h := OB.out; simp only [List.nil_append, Nat.zero_add] at h; simpa using h)
                have re2 : vB = .slice rA (fs.length + 1) rC := by rw [re, ← HQS.out]; simp
                have RE := Lib.hid re2
                clear re re2
                go_wp2_with fail
                go_meet
                exact ⟨_, _, _, rfl, RE.out, hHeld.1, rk⟩
              ·
               go_simp
               refine hK.out _ _ ?_ (fun hHeld => ?_)
               · (try dsimp only); exact HALLx.out _ (btl hHeld.1 (alloc1 _ _))
               clear hK K
               (try simp only [Act.put, List.setIfInBounds_toArray, List.set_cons_zero, List.set_cons_succ])
               have y_R := rows_at (cs := Fx8.cells (q8 y.k)) (size := 8) hHeld.1 rfl
               (try simp only [World.size_alloc] at y_R)
               have R8 := Lib.hid y_R
               clear y_R
               refine wpAnyH_ready (rs := [0]) (by kernel_rfl) (by simp) ?_
               refine AllReadyH.cons (o := ?o17) ?ho17 (fun K hK => ?st17) AllReadyH.nil
               case ho17 => (simp only [List.getElem?_toArray, List.getElem?_cons_succ, List.getElem?_cons_zero]; rfl)
               go_simp
               have hPre := hHeld
               refine hK.out _ _ ?_ (fun hHeld => ?_)
               · (try dsimp only); exact HALLx.out _ (btl hHeld.1 (alloc1 _ _))
               clear hK K
               (try simp only [Act.put, List.setIfInBounds_toArray, List.set_cons_zero, List.set_cons_succ])
               have y_O := own_at (size := 8) hHeld.1 hPre.1.size
               (try simp only [World.size_alloc] at y_O)
               have OE := Lib.hid y_O
               clear y_O hPre
               have y_R := R8.out.below (alloc1 _ (.cells #[] 42))
               clear R8
               have R8 := Lib.hid y_R
               clear y_R
               refine wpAnyH_ready (rs := [3]) (by kernel_rfl) (by simp) ?_
               refine AllReadyH.cons (o := ?o18) ?ho18 (fun K hK => ?st18) AllReadyH.nil
               case ho18 => (simp only [List.getElem?_toArray, List.getElem?_cons_succ, List.getElem?_cons_zero]; rfl)
               refine step_append_rows rfl (.tmp 55) (.tmp 57) 28 rfl wk.heap.size 42 i1 (.agg #[.string ⟨#[]⟩, .int .i64 0, .slice none 0 0, .int .i64 0, .int .i64 0, .bool false, .string ⟨#[]⟩, .float .f64 0]) 8 96 Try.underlying28 hi1 hz1 hs1 hb1 (by rfl) (by decide) _ 0 ([]) rfl OE.out _ fs.length (qs.flatMap Fx8.cells) rfl (RWS.out.below hHeld.1) (fx_one qs) (by unfold maxLen; omega) (by omega) hHeld.1.size ?_
               intro vA wA hownA hgrA hobA
               have hbBA := grown_belowF hHeld.1 hgrA (own_baseF OE.out)
               have OA := Lib.hid hownA
               have y_R := R8.out.grown hgrA (hne_of _ _ _ _ (by first | omega | (simp only [World.size_alloc]; done) | (simp only [World.size_alloc]; omega) | (simp; done) | (simp; omega)))
               clear R8
               have R8 := Lib.hid y_R
               clear y_R
               refine hK.out _ _ ?_ (fun hHeld => ?_)
               · (try dsimp only); exact HALLx.out _ hbBA
               clear hK K
               (try simp only [Act.put, List.setIfInBounds_toArray, List.set_cons_zero, List.set_cons_succ])
               refine wpAnyH_ready (rs := [9]) (by kernel_rfl) (by simp) ?_
               refine AllReadyH.cons (o := ?o19) ?ho19 (fun K hK => ?st19) AllReadyH.nil
               case ho19 => (simp only [List.getElem?_toArray, List.getElem?_cons_succ, List.getElem?_cons_zero]; rfl)
               refine step_append_rows rfl (.tmp 58) (.tmp 63) 28 rfl wk.heap.size 42 i1 (.agg #[.string ⟨#[]⟩, .int .i64 0, .slice none 0 0, .int .i64 0, .int .i64 0, .bool false, .string ⟨#[]⟩, .float .f64 0]) 8 96 Try.underlying28 hi1 hz1 hs1 hb1 (by rfl) (by decide) _ (0 + fs.length) ([] ++ qs.flatMap Fx8.cells) rfl OA.out _ 1 (Fx8.cells (q8 y.k)) rfl R8.out (fun u hu => fx_one [(q8 y.k)] u (by simpa using hu)) (by unfold maxLen; omega) (by omega) hHeld.1.size ?_
               intro vB wB hownB hgrB hobB
               have hbBB := grown_belowF hHeld.1 hgrB (own_baseF OA.out)
               have OB := Lib.hid hownB
               refine hK.out _ _ ?_ (fun hHeld => ?_)
               · (try dsimp only); exact HALLx.out _ hbBB
               clear hK K
               (try simp only [Act.put, List.setIfInBounds_toArray, List.set_cons_zero, List.set_cons_succ])
               refine wpAnyH_take (i := 10) (oi := ?oi20) (v := ?v20) ?hi20 (by kernel_rfl) (by kernel_rfl) (by kernel_rfl) ?hQ20 (Or.inl ⟨?hw20, ?hy20⟩) (by assumption) ?rest20
               case hi20 => (simp only [List.getElem?_toArray, List.getElem?_cons_succ, List.getElem?_cons_zero]; rfl)
               case hQ20 => exact fun _ _ _ h => h
               case hw20 => rfl
               case hy20 => (intro w hSw; (try dsimp only at hSw); go_simp; try with_reducible rfl)
               (try simp only [Act.put, List.setIfInBounds_toArray, List.set_cons_zero, List.set_cons_succ])
               refine wpAnyH_done (by kernel_rfl) ?_ _
               obtain ⟨rA, rC, re, rk⟩ := fdk_own (qs := qs ++ [(q8 y.k)]) (by have h := OB.out; simp only [List.nil_append, Nat.zero_add] at h; simpa using h)
               have re2 : vB = .slice rA (fs.length + 1) rC := by rw [re, ← HQS.out]; simp
               have RE := Lib.hid re2
               clear re re2
               go_wp2_with fail
               go_meet
               exact ⟨_, _, _, rfl, RE.out, hHeld.1, rk⟩
            case rest =>
              obtain ⟨rA, rC, v10, rfl, rfl, hB7, hfd⟩ := hcut
              have hbw := SK.out.bel.trans (hB7.mono SK.out.bel.size)
              have S3 := Lib.hid (SK.out.below hB7)
              have Y3 := Lib.hid (YK.out.below hB7)
              have A3 := Lib.hid (A2.out.below hB7)
              have FD := Lib.hid hfd
              clear hfd hbw hB7 SK YK S2 Y2 A2 RWS
              have SK := S3
              have YK := Y3
              have RWS := Lib.hid (vlk_rows (HK.out.2.1.below SK.out.bel (Nat.le_refl _)))
              go_upto_region 8 with fail
              go_cut [11] from 65 to 71 (fun s11 wx => ∃ rA rC v11, s11 = v11 ∧ v11 = .slice rA (vs.length + 1) rC ∧ Below wc.heap.size wc wx ∧ VlK wx rA rC (vs ++ [y]))
              case first =>
                have hallx := fun (W : World) (hb : Below wc.heap.size wc W) => (show Below wc.heap.size wc W ∧ W.cell? ⟨w.heap.size + 1, 1, none⟩ = some (.slice VA vs.length VC) ∧ W.cell? ⟨w.heap.size + 1 + 1, 0, none⟩ = some (.int .i64 y.k) ∧ W.cell? ⟨w.heap.size + 1 + 1, 1, none⟩ = some (.int .i64 y.i) ∧ W.cell? ⟨w.heap.size + 1 + 1, 2, none⟩ = some (.bool y.b) ∧ W.cell? ⟨w.heap.size + 1 + 1, 3, none⟩ = some (.string y.s) ∧ W.cell? ⟨w.heap.size + 1 + 1, 4, none⟩ = some (.float .f64 y.n) from ⟨hb, (SK.out.below hb).v, YK.out.below hb⟩)
                have HALLx := Lib.hid hallx
                clear hallx
                obtain ⟨i1, hi1, hz1, hs1, hb1⟩ := info5 valueinfo
                refine wp_region_held_drew (S := (fun W => Below wc.heap.size wc W ∧ W.cell? ⟨w.heap.size + 1, 1, none⟩ = some (.slice VA vs.length VC) ∧ W.cell? ⟨w.heap.size + 1 + 1, 0, none⟩ = some (.int .i64 y.k) ∧ W.cell? ⟨w.heap.size + 1 + 1, 1, none⟩ = some (.int .i64 y.i) ∧ W.cell? ⟨w.heap.size + 1 + 1, 2, none⟩ = some (.bool y.b) ∧ W.cell? ⟨w.heap.size + 1 + 1, 3, none⟩ = some (.string y.s) ∧ W.cell? ⟨w.heap.size + 1 + 1, 4, none⟩ = some (.float .f64 y.n))) (by kernel_rfl) (HALLx.out _ (Below.refl _ _).drew) (fun hHeld => ?_)
                generalize wc.drew = wD at *
                refine wpAnyH_take (i := 1) (oi := ?oi21) (v := ?v21) ?hi21 (by kernel_rfl) (by kernel_rfl) (by kernel_rfl) ?hQ21 (Or.inl ⟨?hw21, ?hy21⟩) (by assumption) ?rest21
                case hi21 => (simp only [List.getElem?_toArray, List.getElem?_cons_succ, List.getElem?_cons_zero]; rfl)
                case hQ21 => exact fun _ _ _ h => h
                case hw21 => rfl
                case hy21 => (intro w hSw; (try dsimp only at hSw); go_simp; try with_reducible rfl)
                (try simp only [Act.put, List.setIfInBounds_toArray, List.set_cons_zero, List.set_cons_succ])
                refine wpAnyH_take (i := 2) (oi := ?oi22) (v := ?v22) ?hi22 (by kernel_rfl) (by kernel_rfl) (by kernel_rfl) ?hQ22 (Or.inl ⟨?hw22, ?hy22⟩) (by assumption) ?rest22
                case hi22 => (simp only [List.getElem?_toArray, List.getElem?_cons_succ, List.getElem?_cons_zero]; rfl)
                case hQ22 => exact fun _ _ _ h => h
                case hw22 => rfl
                case hy22 => (intro w hSw; (try dsimp only at hSw); go_simp; try with_reducible rfl)
                (try simp only [Act.put, List.setIfInBounds_toArray, List.set_cons_zero, List.set_cons_succ])
                refine wpAnyH_take (i := 4) (oi := ?oi23) (v := ?v23) ?hi23 (by kernel_rfl) (by kernel_rfl) (by kernel_rfl) ?hQ23 (Or.inl ⟨?hw23, ?hy23⟩) (by assumption) ?rest23
                case hi23 => (simp only [List.getElem?_toArray, List.getElem?_cons_succ, List.getElem?_cons_zero]; rfl)
                case hQ23 => exact fun _ _ _ h => h
                case hw23 => rfl
                case hy23 => (intro w hSw; (try dsimp only at hSw); go_simp; try with_reducible rfl)
                (try simp only [Act.put, List.setIfInBounds_toArray, List.set_cons_zero, List.set_cons_succ])
                refine wpAnyH_ready (rs := [0, 5]) (by kernel_rfl) (by simp) ?_
                refine AllReadyH.cons (o := ?o24) ?ho24 (fun K hK => ?st24) (AllReadyH.cons (o := ?o25) ?ho25 (fun K hK => ?st25) AllReadyH.nil)
                case ho24 => (simp only [List.getElem?_toArray, List.getElem?_cons_succ, List.getElem?_cons_zero]; rfl)
                case ho25 => (simp only [List.getElem?_toArray, List.getElem?_cons_succ, List.getElem?_cons_zero]; rfl)
                ·
                 go_simp
                 have hPre := hHeld
                 refine hK.out _ _ ?_ (fun hHeld => ?_)
                 · (try dsimp only); exact HALLx.out _ (btl hHeld.1 (alloc1 _ _))
                 clear hK K
                 (try simp only [Act.put, List.setIfInBounds_toArray, List.set_cons_zero, List.set_cons_succ])
                 have y_O := own_at (size := 5) hHeld.1 hPre.1.size
                 (try simp only [World.size_alloc] at y_O)
                 have OE := Lib.hid y_O
                 clear y_O hPre
                 refine wpAnyH_ready (rs := [3, 5]) (by kernel_rfl) (by simp) ?_
                 refine AllReadyH.cons (o := ?o26) ?ho26 (fun K hK => ?st26) (AllReadyH.cons (o := ?o27) ?ho27 (fun K hK => ?st27) AllReadyH.nil)
                 case ho26 => (simp only [List.getElem?_toArray, List.getElem?_cons_succ, List.getElem?_cons_zero]; rfl)
                 case ho27 => (simp only [List.getElem?_toArray, List.getElem?_cons_succ, List.getElem?_cons_zero]; rfl)
                 ·
                  refine step_append_rows rfl (.tmp 65) (.tmp 67) 29 rfl wc.heap.size 25 i1 (.agg #[.int .i64 0, .int .i64 0, .bool false, .string ⟨#[]⟩, .float .f64 0]) 5 48 Try.underlying29 hi1 hz1 hs1 hb1 (by rfl) (by decide) _ 0 ([]) rfl OE.out _ vs.length (vs.flatMap vcells) rfl (RWS.out.below hHeld.1) (vx_one vs) (by unfold maxLen; omega) (by omega) hHeld.1.size ?_
                  intro vA wA hownA hgrA hobA
                  have hbBA := grown_belowF hHeld.1 hgrA (own_baseF OE.out)
                  have OA := Lib.hid hownA
                  refine hK.out _ _ ?_ (fun hHeld => ?_)
                  · (try dsimp only); exact HALLx.out _ hbBA
                  clear hK K
                  (try simp only [Act.put, List.setIfInBounds_toArray, List.set_cons_zero, List.set_cons_succ])
                  refine wpAnyH_ready (rs := [5]) (by kernel_rfl) (by simp) ?_
                  refine AllReadyH.cons (o := ?o28) ?ho28 (fun K hK => ?st28) AllReadyH.nil
                  case ho28 => (simp only [List.getElem?_toArray, List.getElem?_cons_succ, List.getElem?_cons_zero]; rfl)
                  go_simp
                  refine hK.out _ _ ?_ (fun hHeld => ?_)
                  · (try dsimp only); exact HALLx.out _ (btl hHeld.1 (alloc1 _ _))
                  clear hK K
                  (try simp only [Act.put, List.setIfInBounds_toArray, List.set_cons_zero, List.set_cons_succ])
                  have y_R := rows_at (cs := vcells y) (size := 5) hHeld.1 rfl
                  (try simp only [World.size_alloc] at y_R)
                  have R8 := Lib.hid y_R
                  clear y_R
                  have y_A := own_alloc OA.out (.cells (vcells y).toArray 25)
                  clear OA
                  have OA := Lib.hid y_A
                  clear y_A
                  refine wpAnyH_ready (rs := [6]) (by kernel_rfl) (by simp) ?_
                  refine AllReadyH.cons (o := ?o29) ?ho29 (fun K hK => ?st29) AllReadyH.nil
                  case ho29 => (simp only [List.getElem?_toArray, List.getElem?_cons_succ, List.getElem?_cons_zero]; rfl)
                  refine step_append_rows rfl (.tmp 68) (.tmp 70) 29 rfl wc.heap.size 25 i1 (.agg #[.int .i64 0, .int .i64 0, .bool false, .string ⟨#[]⟩, .float .f64 0]) 5 48 Try.underlying29 hi1 hz1 hs1 hb1 (by rfl) (by decide) _ (0 + vs.length) ([] ++ vs.flatMap vcells) rfl OA.out _ 1 (vcells y) rfl R8.out (fun u hu => vx_one [y] u (by simpa using hu)) (by unfold maxLen; omega) (by omega) hHeld.1.size ?_
                  intro vB wB hownB hgrB hobB
                  have hbBB := grown_belowF hHeld.1 hgrB (own_baseF OA.out)
                  have OB := Lib.hid hownB
                  refine hK.out _ _ ?_ (fun hHeld => ?_)
                  · (try dsimp only); exact HALLx.out _ hbBB
                  clear hK K
                  (try simp only [Act.put, List.setIfInBounds_toArray, List.set_cons_zero, List.set_cons_succ])
                  refine wpAnyH_take (i := 7) (oi := ?oi30) (v := ?v30) ?hi30 (by kernel_rfl) (by kernel_rfl) (by kernel_rfl) ?hQ30 (Or.inl ⟨?hw30, ?hy30⟩) (by assumption) ?rest30
                  case hi30 => (simp only [List.getElem?_toArray, List.getElem?_cons_succ, List.getElem?_cons_zero]; rfl)
                  case hQ30 => exact fun _ _ _ h => h
                  case hw30 => rfl
                  case hy30 => (intro w hSw; (try dsimp only at hSw); go_simp; try with_reducible rfl)
                  (try simp only [Act.put, List.setIfInBounds_toArray, List.set_cons_zero, List.set_cons_succ])
                  refine wpAnyH_done (by kernel_rfl) ?_ _
                  obtain ⟨rA, rC, re, rk⟩ := vlk_own (ys := vs ++ [y]) (by have h := OB.out; simp only [List.nil_append, Nat.zero_add] at h; simpa using h)
                  have re2 : vB = .slice rA (vs.length + 1) rC := by rw [re]; simp
                  have RE := Lib.hid re2
                  clear re re2
                  go_wp2_with fail
                  go_meet
                  exact ⟨_, _, _, rfl, RE.out, hHeld.1, rk⟩
                 ·
                  go_simp
                  refine hK.out _ _ ?_ (fun hHeld => ?_)
                  · (try dsimp only); exact HALLx.out _ (btl hHeld.1 (alloc1 _ _))
                  clear hK K
                  (try simp only [Act.put, List.setIfInBounds_toArray, List.set_cons_zero, List.set_cons_succ])
                  have y_R := rows_at (cs := vcells y) (size := 5) hHeld.1 rfl
                  (try simp only [World.size_alloc] at y_R)
                  have R8 := Lib.hid y_R
                  clear y_R
                  have y_A := own_alloc OE.out (.cells (vcells y).toArray 25)
                  clear OE
                  have OE := Lib.hid y_A
                  clear y_A
                  refine wpAnyH_ready (rs := [3]) (by kernel_rfl) (by simp) ?_
                  refine AllReadyH.cons (o := ?o31) ?ho31 (fun K hK => ?st31) AllReadyH.nil
                  case ho31 => (simp only [List.getElem?_toArray, List.getElem?_cons_succ, List.getElem?_cons_zero]; rfl)
                  refine step_append_rows rfl (.tmp 65) (.tmp 67) 29 rfl wc.heap.size 25 i1 (.agg #[.int .i64 0, .int .i64 0, .bool false, .string ⟨#[]⟩, .float .f64 0]) 5 48 Try.underlying29 hi1 hz1 hs1 hb1 (by rfl) (by decide) _ 0 ([]) rfl OE.out _ vs.length (vs.flatMap vcells) rfl (RWS.out.below hHeld.1) (vx_one vs) (by unfold maxLen; omega) (by omega) hHeld.1.size ?_
                  intro vA wA hownA hgrA hobA
                  have hbBA := grown_belowF hHeld.1 hgrA (own_baseF OE.out)
                  have OA := Lib.hid hownA
                  have y_R := R8.out.grown hgrA (hne_of _ _ _ _ (by first | omega | (simp only [World.size_alloc]; done) | (simp only [World.size_alloc]; omega) | (simp; done) | (simp; omega)))
                  clear R8
                  have R8 := Lib.hid y_R
                  clear y_R
                  refine hK.out _ _ ?_ (fun hHeld => ?_)
                  · (try dsimp only); exact HALLx.out _ hbBA
                  clear hK K
                  (try simp only [Act.put, List.setIfInBounds_toArray, List.set_cons_zero, List.set_cons_succ])
                  refine wpAnyH_ready (rs := [6]) (by kernel_rfl) (by simp) ?_
                  refine AllReadyH.cons (o := ?o32) ?ho32 (fun K hK => ?st32) AllReadyH.nil
                  case ho32 => (simp only [List.getElem?_toArray, List.getElem?_cons_succ, List.getElem?_cons_zero]; rfl)
                  refine step_append_rows rfl (.tmp 68) (.tmp 70) 29 rfl wc.heap.size 25 i1 (.agg #[.int .i64 0, .int .i64 0, .bool false, .string ⟨#[]⟩, .float .f64 0]) 5 48 Try.underlying29 hi1 hz1 hs1 hb1 (by rfl) (by decide) _ (0 + vs.length) ([] ++ vs.flatMap vcells) rfl OA.out _ 1 (vcells y) rfl R8.out (fun u hu => vx_one [y] u (by simpa using hu)) (by unfold maxLen; omega) (by omega) hHeld.1.size ?_
                  intro vB wB hownB hgrB hobB
                  have hbBB := grown_belowF hHeld.1 hgrB (own_baseF OA.out)
                  have OB := Lib.hid hownB
                  refine hK.out _ _ ?_ (fun hHeld => ?_)
                  · (try dsimp only); exact HALLx.out _ hbBB
                  clear hK K
                  (try simp only [Act.put, List.setIfInBounds_toArray, List.set_cons_zero, List.set_cons_succ])
                  refine wpAnyH_take (i := 7) (oi := ?oi33) (v := ?v33) ?hi33 (by kernel_rfl) (by kernel_rfl) (by kernel_rfl) ?hQ33 (Or.inl ⟨?hw33, ?hy33⟩) (by assumption) ?rest33
                  case hi33 => (simp only [List.getElem?_toArray, List.getElem?_cons_succ, List.getElem?_cons_zero]; rfl)
                  case hQ33 => exact fun _ _ _ h => h
                  case hw33 => rfl
                  case hy33 => (intro w hSw; (try dsimp only at hSw); go_simp; try with_reducible rfl)
                  (try simp only [Act.put, List.setIfInBounds_toArray, List.set_cons_zero, List.set_cons_succ])
                  refine wpAnyH_done (by kernel_rfl) ?_ _
                  obtain ⟨rA, rC, re, rk⟩ := vlk_own (ys := vs ++ [y]) (by have h := OB.out; simp only [List.nil_append, Nat.zero_add] at h; simpa using h)
                  have re2 : vB = .slice rA (vs.length + 1) rC := by rw [re]; simp
                  have RE := Lib.hid re2
                  clear re re2
                  go_wp2_with fail
                  go_meet
                  exact ⟨_, _, _, rfl, RE.out, hHeld.1, rk⟩
                ·
                 go_simp
                 refine hK.out _ _ ?_ (fun hHeld => ?_)
                 · (try dsimp only); exact HALLx.out _ (btl hHeld.1 (alloc1 _ _))
                 clear hK K
                 (try simp only [Act.put, List.setIfInBounds_toArray, List.set_cons_zero, List.set_cons_succ])
                 have y_R := rows_at (cs := vcells y) (size := 5) hHeld.1 rfl
                 (try simp only [World.size_alloc] at y_R)
                 have R8 := Lib.hid y_R
                 clear y_R
                 refine wpAnyH_ready (rs := [0]) (by kernel_rfl) (by simp) ?_
                 refine AllReadyH.cons (o := ?o34) ?ho34 (fun K hK => ?st34) AllReadyH.nil
                 case ho34 => (simp only [List.getElem?_toArray, List.getElem?_cons_succ, List.getElem?_cons_zero]; rfl)
                 go_simp
                 have hPre := hHeld
                 refine hK.out _ _ ?_ (fun hHeld => ?_)
                 · (try dsimp only); exact HALLx.out _ (btl hHeld.1 (alloc1 _ _))
                 clear hK K
                 (try simp only [Act.put, List.setIfInBounds_toArray, List.set_cons_zero, List.set_cons_succ])
                 have y_O := own_at (size := 5) hHeld.1 hPre.1.size
                 (try simp only [World.size_alloc] at y_O)
                 have OE := Lib.hid y_O
                 clear y_O hPre
                 have y_R := R8.out.below (alloc1 _ (.cells #[] 25))
                 clear R8
                 have R8 := Lib.hid y_R
                 clear y_R
                 refine wpAnyH_ready (rs := [3]) (by kernel_rfl) (by simp) ?_
                 refine AllReadyH.cons (o := ?o35) ?ho35 (fun K hK => ?st35) AllReadyH.nil
                 case ho35 => (simp only [List.getElem?_toArray, List.getElem?_cons_succ, List.getElem?_cons_zero]; rfl)
                 refine step_append_rows rfl (.tmp 65) (.tmp 67) 29 rfl wc.heap.size 25 i1 (.agg #[.int .i64 0, .int .i64 0, .bool false, .string ⟨#[]⟩, .float .f64 0]) 5 48 Try.underlying29 hi1 hz1 hs1 hb1 (by rfl) (by decide) _ 0 ([]) rfl OE.out _ vs.length (vs.flatMap vcells) rfl (RWS.out.below hHeld.1) (vx_one vs) (by unfold maxLen; omega) (by omega) hHeld.1.size ?_
                 intro vA wA hownA hgrA hobA
                 have hbBA := grown_belowF hHeld.1 hgrA (own_baseF OE.out)
                 have OA := Lib.hid hownA
                 have y_R := R8.out.grown hgrA (hne_of _ _ _ _ (by first | omega | (simp only [World.size_alloc]; done) | (simp only [World.size_alloc]; omega) | (simp; done) | (simp; omega)))
                 clear R8
                 have R8 := Lib.hid y_R
                 clear y_R
                 refine hK.out _ _ ?_ (fun hHeld => ?_)
                 · (try dsimp only); exact HALLx.out _ hbBA
                 clear hK K
                 (try simp only [Act.put, List.setIfInBounds_toArray, List.set_cons_zero, List.set_cons_succ])
                 refine wpAnyH_ready (rs := [6]) (by kernel_rfl) (by simp) ?_
                 refine AllReadyH.cons (o := ?o36) ?ho36 (fun K hK => ?st36) AllReadyH.nil
                 case ho36 => (simp only [List.getElem?_toArray, List.getElem?_cons_succ, List.getElem?_cons_zero]; rfl)
                 refine step_append_rows rfl (.tmp 68) (.tmp 70) 29 rfl wc.heap.size 25 i1 (.agg #[.int .i64 0, .int .i64 0, .bool false, .string ⟨#[]⟩, .float .f64 0]) 5 48 Try.underlying29 hi1 hz1 hs1 hb1 (by rfl) (by decide) _ (0 + vs.length) ([] ++ vs.flatMap vcells) rfl OA.out _ 1 (vcells y) rfl R8.out (fun u hu => vx_one [y] u (by simpa using hu)) (by unfold maxLen; omega) (by omega) hHeld.1.size ?_
                 intro vB wB hownB hgrB hobB
                 have hbBB := grown_belowF hHeld.1 hgrB (own_baseF OA.out)
                 have OB := Lib.hid hownB
                 refine hK.out _ _ ?_ (fun hHeld => ?_)
                 · (try dsimp only); exact HALLx.out _ hbBB
                 clear hK K
                 (try simp only [Act.put, List.setIfInBounds_toArray, List.set_cons_zero, List.set_cons_succ])
                 refine wpAnyH_take (i := 7) (oi := ?oi37) (v := ?v37) ?hi37 (by kernel_rfl) (by kernel_rfl) (by kernel_rfl) ?hQ37 (Or.inl ⟨?hw37, ?hy37⟩) (by assumption) ?rest37
                 case hi37 => (simp only [List.getElem?_toArray, List.getElem?_cons_succ, List.getElem?_cons_zero]; rfl)
                 case hQ37 => exact fun _ _ _ h => h
                 case hw37 => rfl
                 case hy37 => (intro w hSw; (try dsimp only at hSw); go_simp; try with_reducible rfl)
                 (try simp only [Act.put, List.setIfInBounds_toArray, List.set_cons_zero, List.set_cons_succ])
                 refine wpAnyH_done (by kernel_rfl) ?_ _
                 obtain ⟨rA, rC, re, rk⟩ := vlk_own (ys := vs ++ [y]) (by have h := OB.out; simp only [List.nil_append, Nat.zero_add] at h; simpa using h)
                 have re2 : vB = .slice rA (vs.length + 1) rC := by rw [re]; simp
                 have RE := Lib.hid re2
                 clear re re2
                 go_wp2_with fail
                 go_meet
                 exact ⟨_, _, _, rfl, RE.out, hHeld.1, rk⟩
              case rest =>
                obtain ⟨qA, qC, v11, rfl, rfl, hB8, hvk⟩ := hcut
                have S4 := Lib.hid (SK.out.below hB8)
                have Y4 := Lib.hid (YK.out.below hB8)
                have A4 := Lib.hid (A3.out.below hB8)
                have hfd4 := FD.out.below hB8 (Nat.le_refl _)
                have hmap : (qs ++ [q8 y.k]).map Fx8.f = fs ++ [⟨nmF, y.k⟩] := by rw [List.map_append, HQS.out]; rfl
                rw [hmap] at hfd4
                have hev2 := EV2.out (fs ++ [⟨nmF, y.k⟩]) (vs ++ [y]) rA qA rC qC _ S4.out.bel hfd4 hvk (fun v hv => by
                  rcases List.mem_append.1 hv with hv | hv
                  · exact HK.out.2.2.1 v hv
                  · rw [List.mem_singleton.1 hv]; exact HK.out.2.2.2)
                rw [show (fs ++ [(⟨nmF, y.k⟩ : Fd)]).length = fs.length + 1 from by simp, show (vs ++ [y]).length = vs.length + 1 from by simp, PURE.out ⟨nmF, y.k⟩ HG.out rfl HU.out HX1.out] at hev2
                have EVV := Lib.hid hev2
                clear hev2 hfd4 hvk hmap hB8 SK YK
                obtain ⟨d0, d1, d2, d3, d4, d5, d6, d7⟩ := S4.out.ex
                go_wp2_with fail
                refine EVV.out.mono ?_
                rintro _ w9 ⟨rfl, hb9⟩
                clear d0 d1 d2 d3 d4 d5 d6 d7
                have S9 := Lib.hid ((S4.out.below hb9).below (alloc1 w9 (.cells #[.int .i64 a.k, .int .i64 a.i, .bool a.b, .string a.s, .float .f64 a.n] 25)))
                obtain ⟨x0, x1, x2, x3, x4⟩ := (A4.out.below hb9).below (alloc1 w9 (.cells #[.int .i64 a.k, .int .i64 a.i, .bool a.b, .string a.s, .float .f64 a.n] 25))
                have hsm2 : ∀ W, Calls Try.prog 10 #[agV a, agV a] W (VMk (.bool true) W) := fun W => by
                  have h := rSame_val a a W
                  rwa [same_self] at h
                have SM := Lib.hid hsm2
                clear hsm2 hb9
                go_wp2_with fail
                refine (SM.out _).mono ?_
                rintro _ w10 ⟨rfl, hb10⟩
                go_wp2_with fail
                refine (AWK.out _).mono ?_
                rintro _ w11 ⟨rfl, hb11⟩
                go_wp2
                go_ret
                exact ⟨rfl, ((S9.out.below hb10).below hb11).bel⟩
          · obtain ⟨d0, d1, d2, d3, d4, d5, d6, d7⟩ := S2.out.ex
            have husr := USE.out rfl nmF
            go_wp2_with fail
            rcases hu : usesX 6 e nmF with _ | _
            · rw [hu] at husr
              refine (husr _ S2.out.bel).mono ?_
              rintro _ w6 ⟨rfl, hb6⟩
              have HU := Lib.hid (show true = true → usesX 6 e nmF = false from fun _ => hu)
              clear d0 d1 d2 d3 d4 d5 d6 d7 husr hu
              have S2 := Lib.hid (S2.out.below hb6)
              have Y2 := Lib.hid (Y2.out.below hb6)
              have A2 := Lib.hid (A2.out.below hb6)
              clear hb6
              generalize w6 = wk at *
              go_upto_region 7 with fail
              have SK := S2
              have YK := Y2
              obtain ⟨qs, hqs, hrw⟩ := fdk_rows (HK.out.1.below SK.out.bel (Nat.le_refl _))
              have RWS := Lib.hid hrw
              have HQS := Lib.hid hqs
              clear hrw hqs
              obtain ⟨hlf, hlv, -, -⟩ := HL.out
              go_cut [10] from 55 to 64 (fun s10 wx => ∃ rA rC v10, s10 = v10 ∧ v10 = .slice rA (fs.length + 1) rC ∧ Below wk.heap.size wk wx ∧ FdK wx rA rC ((qs ++ [(q8 y.k)]).map Fx8.f))
              case first =>
                have hallx := fun (W : World) (hb : Below wk.heap.size wk W) => (show Below wk.heap.size wk W ∧ W.cell? ⟨w.heap.size + 1, 0, none⟩ = some (.slice FA fs.length FC) ∧ W.cell? ⟨w.heap.size + 1 + 1, 0, none⟩ = some (.int .i64 y.k) from ⟨hb, (SK.out.below hb).f, (YK.out.below hb).1⟩)
                have HALLx := Lib.hid hallx
                clear hallx
                obtain ⟨i1, hi1, hz1, hs1, hb1⟩ := info5 fieldinfo
                refine wp_region_held_drew (S := (fun W => Below wk.heap.size wk W ∧ W.cell? ⟨w.heap.size + 1, 0, none⟩ = some (.slice FA fs.length FC) ∧ W.cell? ⟨w.heap.size + 1 + 1, 0, none⟩ = some (.int .i64 y.k))) (by kernel_rfl) (HALLx.out _ (Below.refl _ _).drew) (fun hHeld => ?_)
                generalize wk.drew = wD at *
                refine wpAnyH_take (i := 1) (oi := ?oi38) (v := ?v38) ?hi38 (by kernel_rfl) (by kernel_rfl) (by kernel_rfl) ?hQ38 (Or.inl ⟨?hw38, ?hy38⟩) (by assumption) ?rest38
                case hi38 => (simp only [List.getElem?_toArray, List.getElem?_cons_succ, List.getElem?_cons_zero]; rfl)
                case hQ38 => exact fun _ _ _ h => h
                case hw38 => rfl
                case hy38 => (intro w hSw; (try dsimp only at hSw); go_simp; try with_reducible rfl)
                (try simp only [Act.put, List.setIfInBounds_toArray, List.set_cons_zero, List.set_cons_succ])
                refine wpAnyH_take (i := 2) (oi := ?oi39) (v := ?v39) ?hi39 (by kernel_rfl) (by kernel_rfl) (by kernel_rfl) ?hQ39 (Or.inl ⟨?hw39, ?hy39⟩) (by assumption) ?rest39
                case hi39 => (simp only [List.getElem?_toArray, List.getElem?_cons_succ, List.getElem?_cons_zero]; rfl)
                case hQ39 => exact fun _ _ _ h => h
                case hw39 => rfl
                case hy39 => (intro w hSw; (try dsimp only at hSw); go_simp; try with_reducible rfl)
                (try simp only [Act.put, List.setIfInBounds_toArray, List.set_cons_zero, List.set_cons_succ])
                refine wpAnyH_take (i := 4) (oi := ?oi40) (v := ?v40) ?hi40 (by kernel_rfl) (by kernel_rfl) (by kernel_rfl) ?hQ40 (Or.inl ⟨?hw40, ?hy40⟩) (by assumption) ?rest40
                case hi40 => (simp only [List.getElem?_toArray, List.getElem?_cons_succ, List.getElem?_cons_zero]; rfl)
                case hQ40 => exact fun _ _ _ h => h
                case hw40 => rfl
                case hy40 => (intro w hSw; (try dsimp only at hSw); go_simp; try with_reducible rfl)
                (try simp only [Act.put, List.setIfInBounds_toArray, List.set_cons_zero, List.set_cons_succ])
                refine wpAnyH_take (i := 5) (oi := ?oi41) (v := ?v41) ?hi41 (by kernel_rfl) (by kernel_rfl) (by kernel_rfl) ?hQ41 (Or.inl ⟨?hw41, ?hy41⟩) (by assumption) ?rest41
                case hi41 => (simp only [List.getElem?_toArray, List.getElem?_cons_succ, List.getElem?_cons_zero]; rfl)
                case hQ41 => exact fun _ _ _ h => h
                case hw41 => rfl
                case hy41 => (intro w hSw; (try dsimp only at hSw); go_simp; try with_reducible rfl)
                (try simp only [Act.put, List.setIfInBounds_toArray, List.set_cons_zero, List.set_cons_succ])
                refine wpAnyH_take (i := 6) (oi := ?oi42) (v := ?v42) ?hi42 (by kernel_rfl) (by kernel_rfl) (by kernel_rfl) ?hQ42 (Or.inl ⟨?hw42, ?hy42⟩) (by assumption) ?rest42
                case hi42 => (simp only [List.getElem?_toArray, List.getElem?_cons_succ, List.getElem?_cons_zero]; rfl)
                case hQ42 => exact fun _ _ _ h => h
                case hw42 => rfl
                case hy42 => (intro w hSw; (try dsimp only at hSw); go_simp; try with_reducible rfl)
                (try simp only [Act.put, List.setIfInBounds_toArray, List.set_cons_zero, List.set_cons_succ])
                refine wpAnyH_take (i := 7) (oi := ?oi43) (v := ?v43) ?hi43 (by kernel_rfl) (by kernel_rfl) (by kernel_rfl) ?hQ43 (Or.inl ⟨?hw43, ?hy43⟩) (by assumption) ?rest43
                case hi43 => (simp only [List.getElem?_toArray, List.getElem?_cons_succ, List.getElem?_cons_zero]; rfl)
                case hQ43 => exact fun _ _ _ h => h
                case hw43 => rfl
                case hy43 => (intro w hSw; (try dsimp only at hSw); go_simp; try with_reducible rfl)
                (try simp only [Act.put, List.setIfInBounds_toArray, List.set_cons_zero, List.set_cons_succ])
                refine wpAnyH_ready (rs := [0, 8]) (by kernel_rfl) (by simp) ?_
                refine AllReadyH.cons (o := ?o44) ?ho44 (fun K hK => ?st44) (AllReadyH.cons (o := ?o45) ?ho45 (fun K hK => ?st45) AllReadyH.nil)
                case ho44 => (simp only [List.getElem?_toArray, List.getElem?_cons_succ, List.getElem?_cons_zero]; rfl)
                case ho45 => (simp only [List.getElem?_toArray, List.getElem?_cons_succ, List.getElem?_cons_zero]; rfl)
                ·
                 go_simp
                 have hPre := hHeld
                 refine hK.out _ _ ?_ (fun hHeld => ?_)
                 · (try dsimp only); exact HALLx.out _ (btl hHeld.1 (alloc1 _ _))
                 clear hK K
                 (try simp only [Act.put, List.setIfInBounds_toArray, List.set_cons_zero, List.set_cons_succ])
                 have y_O := own_at (size := 8) hHeld.1 hPre.1.size
                 (try simp only [World.size_alloc] at y_O)
                 have OE := Lib.hid y_O
                 clear y_O hPre
                 refine wpAnyH_ready (rs := [3, 8]) (by kernel_rfl) (by simp) ?_
                 refine AllReadyH.cons (o := ?o46) ?ho46 (fun K hK => ?st46) (AllReadyH.cons (o := ?o47) ?ho47 (fun K hK => ?st47) AllReadyH.nil)
                 case ho46 => (simp only [List.getElem?_toArray, List.getElem?_cons_succ, List.getElem?_cons_zero]; rfl)
                 case ho47 => (simp only [List.getElem?_toArray, List.getElem?_cons_succ, List.getElem?_cons_zero]; rfl)
                 ·
                  refine step_append_rows rfl (.tmp 55) (.tmp 57) 28 rfl wk.heap.size 42 i1 (.agg #[.string ⟨#[]⟩, .int .i64 0, .slice none 0 0, .int .i64 0, .int .i64 0, .bool false, .string ⟨#[]⟩, .float .f64 0]) 8 96 Try.underlying28 hi1 hz1 hs1 hb1 (by rfl) (by decide) _ 0 ([]) rfl OE.out _ fs.length (qs.flatMap Fx8.cells) rfl (RWS.out.below hHeld.1) (fx_one qs) (by unfold maxLen; omega) (by omega) hHeld.1.size ?_
                  intro vA wA hownA hgrA hobA
                  have hbBA := grown_belowF hHeld.1 hgrA (own_baseF OE.out)
                  have OA := Lib.hid hownA
                  refine hK.out _ _ ?_ (fun hHeld => ?_)
                  · (try dsimp only); exact HALLx.out _ hbBA
                  clear hK K
                  (try simp only [Act.put, List.setIfInBounds_toArray, List.set_cons_zero, List.set_cons_succ])
                  refine wpAnyH_ready (rs := [8]) (by kernel_rfl) (by simp) ?_
                  refine AllReadyH.cons (o := ?o48) ?ho48 (fun K hK => ?st48) AllReadyH.nil
                  case ho48 => (simp only [List.getElem?_toArray, List.getElem?_cons_succ, List.getElem?_cons_zero]; rfl)
                  go_simp
                  refine hK.out _ _ ?_ (fun hHeld => ?_)
                  · (try dsimp only); exact HALLx.out _ (btl hHeld.1 (alloc1 _ _))
                  clear hK K
                  (try simp only [Act.put, List.setIfInBounds_toArray, List.set_cons_zero, List.set_cons_succ])
                  have y_R := rows_at (cs := Fx8.cells (q8 y.k)) (size := 8) hHeld.1 rfl
                  (try simp only [World.size_alloc] at y_R)
                  have R8 := Lib.hid y_R
                  clear y_R
                  have y_A := own_alloc OA.out (.cells (Fx8.cells (q8 y.k)).toArray 42)
                  clear OA
                  have OA := Lib.hid y_A
                  clear y_A
                  refine wpAnyH_ready (rs := [9]) (by kernel_rfl) (by simp) ?_
                  refine AllReadyH.cons (o := ?o49) ?ho49 (fun K hK => ?st49) AllReadyH.nil
                  case ho49 => (simp only [List.getElem?_toArray, List.getElem?_cons_succ, List.getElem?_cons_zero]; rfl)
                  refine step_append_rows rfl (.tmp 58) (.tmp 63) 28 rfl wk.heap.size 42 i1 (.agg #[.string ⟨#[]⟩, .int .i64 0, .slice none 0 0, .int .i64 0, .int .i64 0, .bool false, .string ⟨#[]⟩, .float .f64 0]) 8 96 Try.underlying28 hi1 hz1 hs1 hb1 (by rfl) (by decide) _ (0 + fs.length) ([] ++ qs.flatMap Fx8.cells) rfl OA.out _ 1 (Fx8.cells (q8 y.k)) rfl R8.out (fun u hu => fx_one [(q8 y.k)] u (by simpa using hu)) (by unfold maxLen; omega) (by omega) hHeld.1.size ?_
                  intro vB wB hownB hgrB hobB
                  have hbBB := grown_belowF hHeld.1 hgrB (own_baseF OA.out)
                  have OB := Lib.hid hownB
                  refine hK.out _ _ ?_ (fun hHeld => ?_)
                  · (try dsimp only); exact HALLx.out _ hbBB
                  clear hK K
                  (try simp only [Act.put, List.setIfInBounds_toArray, List.set_cons_zero, List.set_cons_succ])
                  refine wpAnyH_take (i := 10) (oi := ?oi50) (v := ?v50) ?hi50 (by kernel_rfl) (by kernel_rfl) (by kernel_rfl) ?hQ50 (Or.inl ⟨?hw50, ?hy50⟩) (by assumption) ?rest50
                  case hi50 => (simp only [List.getElem?_toArray, List.getElem?_cons_succ, List.getElem?_cons_zero]; rfl)
                  case hQ50 => exact fun _ _ _ h => h
                  case hw50 => rfl
                  case hy50 => (intro w hSw; (try dsimp only at hSw); go_simp; try with_reducible rfl)
                  (try simp only [Act.put, List.setIfInBounds_toArray, List.set_cons_zero, List.set_cons_succ])
                  refine wpAnyH_done (by kernel_rfl) ?_ _
                  obtain ⟨rA, rC, re, rk⟩ := fdk_own (qs := qs ++ [(q8 y.k)]) (by have h := OB.out; simp only [List.nil_append, Nat.zero_add] at h; simpa using h)
                  have re2 : vB = .slice rA (fs.length + 1) rC := by rw [re, ← HQS.out]; simp
                  have RE := Lib.hid re2
                  clear re re2
                  go_wp2_with fail
                  go_meet
                  exact ⟨_, _, _, rfl, RE.out, hHeld.1, rk⟩
                 ·
                  go_simp
                  refine hK.out _ _ ?_ (fun hHeld => ?_)
                  · (try dsimp only); exact HALLx.out _ (btl hHeld.1 (alloc1 _ _))
                  clear hK K
                  (try simp only [Act.put, List.setIfInBounds_toArray, List.set_cons_zero, List.set_cons_succ])
                  have y_R := rows_at (cs := Fx8.cells (q8 y.k)) (size := 8) hHeld.1 rfl
                  (try simp only [World.size_alloc] at y_R)
                  have R8 := Lib.hid y_R
                  clear y_R
                  have y_A := own_alloc OE.out (.cells (Fx8.cells (q8 y.k)).toArray 42)
                  clear OE
                  have OE := Lib.hid y_A
                  clear y_A
                  refine wpAnyH_ready (rs := [3]) (by kernel_rfl) (by simp) ?_
                  refine AllReadyH.cons (o := ?o51) ?ho51 (fun K hK => ?st51) AllReadyH.nil
                  case ho51 => (simp only [List.getElem?_toArray, List.getElem?_cons_succ, List.getElem?_cons_zero]; rfl)
                  refine step_append_rows rfl (.tmp 55) (.tmp 57) 28 rfl wk.heap.size 42 i1 (.agg #[.string ⟨#[]⟩, .int .i64 0, .slice none 0 0, .int .i64 0, .int .i64 0, .bool false, .string ⟨#[]⟩, .float .f64 0]) 8 96 Try.underlying28 hi1 hz1 hs1 hb1 (by rfl) (by decide) _ 0 ([]) rfl OE.out _ fs.length (qs.flatMap Fx8.cells) rfl (RWS.out.below hHeld.1) (fx_one qs) (by unfold maxLen; omega) (by omega) hHeld.1.size ?_
                  intro vA wA hownA hgrA hobA
                  have hbBA := grown_belowF hHeld.1 hgrA (own_baseF OE.out)
                  have OA := Lib.hid hownA
                  have y_R := R8.out.grown hgrA (hne_of _ _ _ _ (by first | omega | (simp only [World.size_alloc]; done) | (simp only [World.size_alloc]; omega) | (simp; done) | (simp; omega)))
                  clear R8
                  have R8 := Lib.hid y_R
                  clear y_R
                  refine hK.out _ _ ?_ (fun hHeld => ?_)
                  · (try dsimp only); exact HALLx.out _ hbBA
                  clear hK K
                  (try simp only [Act.put, List.setIfInBounds_toArray, List.set_cons_zero, List.set_cons_succ])
                  refine wpAnyH_ready (rs := [9]) (by kernel_rfl) (by simp) ?_
                  refine AllReadyH.cons (o := ?o52) ?ho52 (fun K hK => ?st52) AllReadyH.nil
                  case ho52 => (simp only [List.getElem?_toArray, List.getElem?_cons_succ, List.getElem?_cons_zero]; rfl)
                  refine step_append_rows rfl (.tmp 58) (.tmp 63) 28 rfl wk.heap.size 42 i1 (.agg #[.string ⟨#[]⟩, .int .i64 0, .slice none 0 0, .int .i64 0, .int .i64 0, .bool false, .string ⟨#[]⟩, .float .f64 0]) 8 96 Try.underlying28 hi1 hz1 hs1 hb1 (by rfl) (by decide) _ (0 + fs.length) ([] ++ qs.flatMap Fx8.cells) rfl OA.out _ 1 (Fx8.cells (q8 y.k)) rfl R8.out (fun u hu => fx_one [(q8 y.k)] u (by simpa using hu)) (by unfold maxLen; omega) (by omega) hHeld.1.size ?_
                  intro vB wB hownB hgrB hobB
                  have hbBB := grown_belowF hHeld.1 hgrB (own_baseF OA.out)
                  have OB := Lib.hid hownB
                  refine hK.out _ _ ?_ (fun hHeld => ?_)
                  · (try dsimp only); exact HALLx.out _ hbBB
                  clear hK K
                  (try simp only [Act.put, List.setIfInBounds_toArray, List.set_cons_zero, List.set_cons_succ])
                  refine wpAnyH_take (i := 10) (oi := ?oi53) (v := ?v53) ?hi53 (by kernel_rfl) (by kernel_rfl) (by kernel_rfl) ?hQ53 (Or.inl ⟨?hw53, ?hy53⟩) (by assumption) ?rest53
                  case hi53 => (simp only [List.getElem?_toArray, List.getElem?_cons_succ, List.getElem?_cons_zero]; rfl)
                  case hQ53 => exact fun _ _ _ h => h
                  case hw53 => rfl
                  case hy53 => (intro w hSw; (try dsimp only at hSw); go_simp; try with_reducible rfl)
                  (try simp only [Act.put, List.setIfInBounds_toArray, List.set_cons_zero, List.set_cons_succ])
                  refine wpAnyH_done (by kernel_rfl) ?_ _
                  obtain ⟨rA, rC, re, rk⟩ := fdk_own (qs := qs ++ [(q8 y.k)]) (by have h := OB.out; simp only [List.nil_append, Nat.zero_add] at h; simpa using h)
                  have re2 : vB = .slice rA (fs.length + 1) rC := by rw [re, ← HQS.out]; simp
                  have RE := Lib.hid re2
                  clear re re2
                  go_wp2_with fail
                  go_meet
                  exact ⟨_, _, _, rfl, RE.out, hHeld.1, rk⟩
                ·
                 go_simp
                 refine hK.out _ _ ?_ (fun hHeld => ?_)
                 · (try dsimp only); exact HALLx.out _ (btl hHeld.1 (alloc1 _ _))
                 clear hK K
                 (try simp only [Act.put, List.setIfInBounds_toArray, List.set_cons_zero, List.set_cons_succ])
                 have y_R := rows_at (cs := Fx8.cells (q8 y.k)) (size := 8) hHeld.1 rfl
                 (try simp only [World.size_alloc] at y_R)
                 have R8 := Lib.hid y_R
                 clear y_R
                 refine wpAnyH_ready (rs := [0]) (by kernel_rfl) (by simp) ?_
                 refine AllReadyH.cons (o := ?o54) ?ho54 (fun K hK => ?st54) AllReadyH.nil
                 case ho54 => (simp only [List.getElem?_toArray, List.getElem?_cons_succ, List.getElem?_cons_zero]; rfl)
                 go_simp
                 have hPre := hHeld
                 refine hK.out _ _ ?_ (fun hHeld => ?_)
                 · (try dsimp only); exact HALLx.out _ (btl hHeld.1 (alloc1 _ _))
                 clear hK K
                 (try simp only [Act.put, List.setIfInBounds_toArray, List.set_cons_zero, List.set_cons_succ])
                 have y_O := own_at (size := 8) hHeld.1 hPre.1.size
                 (try simp only [World.size_alloc] at y_O)
                 have OE := Lib.hid y_O
                 clear y_O hPre
                 have y_R := R8.out.below (alloc1 _ (.cells #[] 42))
                 clear R8
                 have R8 := Lib.hid y_R
                 clear y_R
                 refine wpAnyH_ready (rs := [3]) (by kernel_rfl) (by simp) ?_
                 refine AllReadyH.cons (o := ?o55) ?ho55 (fun K hK => ?st55) AllReadyH.nil
                 case ho55 => (simp only [List.getElem?_toArray, List.getElem?_cons_succ, List.getElem?_cons_zero]; rfl)
                 refine step_append_rows rfl (.tmp 55) (.tmp 57) 28 rfl wk.heap.size 42 i1 (.agg #[.string ⟨#[]⟩, .int .i64 0, .slice none 0 0, .int .i64 0, .int .i64 0, .bool false, .string ⟨#[]⟩, .float .f64 0]) 8 96 Try.underlying28 hi1 hz1 hs1 hb1 (by rfl) (by decide) _ 0 ([]) rfl OE.out _ fs.length (qs.flatMap Fx8.cells) rfl (RWS.out.below hHeld.1) (fx_one qs) (by unfold maxLen; omega) (by omega) hHeld.1.size ?_
                 intro vA wA hownA hgrA hobA
                 have hbBA := grown_belowF hHeld.1 hgrA (own_baseF OE.out)
                 have OA := Lib.hid hownA
                 have y_R := R8.out.grown hgrA (hne_of _ _ _ _ (by first | omega | (simp only [World.size_alloc]; done) | (simp only [World.size_alloc]; omega) | (simp; done) | (simp; omega)))
                 clear R8
                 have R8 := Lib.hid y_R
                 clear y_R
                 refine hK.out _ _ ?_ (fun hHeld => ?_)
                 · (try dsimp only); exact HALLx.out _ hbBA
                 clear hK K
                 (try simp only [Act.put, List.setIfInBounds_toArray, List.set_cons_zero, List.set_cons_succ])
                 refine wpAnyH_ready (rs := [9]) (by kernel_rfl) (by simp) ?_
                 refine AllReadyH.cons (o := ?o56) ?ho56 (fun K hK => ?st56) AllReadyH.nil
                 case ho56 => (simp only [List.getElem?_toArray, List.getElem?_cons_succ, List.getElem?_cons_zero]; rfl)
                 refine step_append_rows rfl (.tmp 58) (.tmp 63) 28 rfl wk.heap.size 42 i1 (.agg #[.string ⟨#[]⟩, .int .i64 0, .slice none 0 0, .int .i64 0, .int .i64 0, .bool false, .string ⟨#[]⟩, .float .f64 0]) 8 96 Try.underlying28 hi1 hz1 hs1 hb1 (by rfl) (by decide) _ (0 + fs.length) ([] ++ qs.flatMap Fx8.cells) rfl OA.out _ 1 (Fx8.cells (q8 y.k)) rfl R8.out (fun u hu => fx_one [(q8 y.k)] u (by simpa using hu)) (by unfold maxLen; omega) (by omega) hHeld.1.size ?_
                 intro vB wB hownB hgrB hobB
                 have hbBB := grown_belowF hHeld.1 hgrB (own_baseF OA.out)
                 have OB := Lib.hid hownB
                 refine hK.out _ _ ?_ (fun hHeld => ?_)
                 · (try dsimp only); exact HALLx.out _ hbBB
                 clear hK K
                 (try simp only [Act.put, List.setIfInBounds_toArray, List.set_cons_zero, List.set_cons_succ])
                 refine wpAnyH_take (i := 10) (oi := ?oi57) (v := ?v57) ?hi57 (by kernel_rfl) (by kernel_rfl) (by kernel_rfl) ?hQ57 (Or.inl ⟨?hw57, ?hy57⟩) (by assumption) ?rest57
                 case hi57 => (simp only [List.getElem?_toArray, List.getElem?_cons_succ, List.getElem?_cons_zero]; rfl)
                 case hQ57 => exact fun _ _ _ h => h
                 case hw57 => rfl
                 case hy57 => (intro w hSw; (try dsimp only at hSw); go_simp; try with_reducible rfl)
                 (try simp only [Act.put, List.setIfInBounds_toArray, List.set_cons_zero, List.set_cons_succ])
                 refine wpAnyH_done (by kernel_rfl) ?_ _
                 obtain ⟨rA, rC, re, rk⟩ := fdk_own (qs := qs ++ [(q8 y.k)]) (by have h := OB.out; simp only [List.nil_append, Nat.zero_add] at h; simpa using h)
                 have re2 : vB = .slice rA (fs.length + 1) rC := by rw [re, ← HQS.out]; simp
                 have RE := Lib.hid re2
                 clear re re2
                 go_wp2_with fail
                 go_meet
                 exact ⟨_, _, _, rfl, RE.out, hHeld.1, rk⟩
              case rest =>
                obtain ⟨rA, rC, v10, rfl, rfl, hB7, hfd⟩ := hcut
                have hbw := SK.out.bel.trans (hB7.mono SK.out.bel.size)
                have S3 := Lib.hid (SK.out.below hB7)
                have Y3 := Lib.hid (YK.out.below hB7)
                have A3 := Lib.hid (A2.out.below hB7)
                have FD := Lib.hid hfd
                clear hfd hbw hB7 SK YK S2 Y2 A2 RWS
                have SK := S3
                have YK := Y3
                have RWS := Lib.hid (vlk_rows (HK.out.2.1.below SK.out.bel (Nat.le_refl _)))
                go_upto_region 8 with fail
                go_cut [11] from 65 to 71 (fun s11 wx => ∃ rA rC v11, s11 = v11 ∧ v11 = .slice rA (vs.length + 1) rC ∧ Below wc.heap.size wc wx ∧ VlK wx rA rC (vs ++ [y]))
                case first =>
                  have hallx := fun (W : World) (hb : Below wc.heap.size wc W) => (show Below wc.heap.size wc W ∧ W.cell? ⟨w.heap.size + 1, 1, none⟩ = some (.slice VA vs.length VC) ∧ W.cell? ⟨w.heap.size + 1 + 1, 0, none⟩ = some (.int .i64 y.k) ∧ W.cell? ⟨w.heap.size + 1 + 1, 1, none⟩ = some (.int .i64 y.i) ∧ W.cell? ⟨w.heap.size + 1 + 1, 2, none⟩ = some (.bool y.b) ∧ W.cell? ⟨w.heap.size + 1 + 1, 3, none⟩ = some (.string y.s) ∧ W.cell? ⟨w.heap.size + 1 + 1, 4, none⟩ = some (.float .f64 y.n) from ⟨hb, (SK.out.below hb).v, YK.out.below hb⟩)
                  have HALLx := Lib.hid hallx
                  clear hallx
                  obtain ⟨i1, hi1, hz1, hs1, hb1⟩ := info5 valueinfo
                  refine wp_region_held_drew (S := (fun W => Below wc.heap.size wc W ∧ W.cell? ⟨w.heap.size + 1, 1, none⟩ = some (.slice VA vs.length VC) ∧ W.cell? ⟨w.heap.size + 1 + 1, 0, none⟩ = some (.int .i64 y.k) ∧ W.cell? ⟨w.heap.size + 1 + 1, 1, none⟩ = some (.int .i64 y.i) ∧ W.cell? ⟨w.heap.size + 1 + 1, 2, none⟩ = some (.bool y.b) ∧ W.cell? ⟨w.heap.size + 1 + 1, 3, none⟩ = some (.string y.s) ∧ W.cell? ⟨w.heap.size + 1 + 1, 4, none⟩ = some (.float .f64 y.n))) (by kernel_rfl) (HALLx.out _ (Below.refl _ _).drew) (fun hHeld => ?_)
                  generalize wc.drew = wD at *
                  refine wpAnyH_take (i := 1) (oi := ?oi58) (v := ?v58) ?hi58 (by kernel_rfl) (by kernel_rfl) (by kernel_rfl) ?hQ58 (Or.inl ⟨?hw58, ?hy58⟩) (by assumption) ?rest58
                  case hi58 => (simp only [List.getElem?_toArray, List.getElem?_cons_succ, List.getElem?_cons_zero]; rfl)
                  case hQ58 => exact fun _ _ _ h => h
                  case hw58 => rfl
                  case hy58 => (intro w hSw; (try dsimp only at hSw); go_simp; try with_reducible rfl)
                  (try simp only [Act.put, List.setIfInBounds_toArray, List.set_cons_zero, List.set_cons_succ])
                  refine wpAnyH_take (i := 2) (oi := ?oi59) (v := ?v59) ?hi59 (by kernel_rfl) (by kernel_rfl) (by kernel_rfl) ?hQ59 (Or.inl ⟨?hw59, ?hy59⟩) (by assumption) ?rest59
                  case hi59 => (simp only [List.getElem?_toArray, List.getElem?_cons_succ, List.getElem?_cons_zero]; rfl)
                  case hQ59 => exact fun _ _ _ h => h
                  case hw59 => rfl
                  case hy59 => (intro w hSw; (try dsimp only at hSw); go_simp; try with_reducible rfl)
                  (try simp only [Act.put, List.setIfInBounds_toArray, List.set_cons_zero, List.set_cons_succ])
                  refine wpAnyH_take (i := 4) (oi := ?oi60) (v := ?v60) ?hi60 (by kernel_rfl) (by kernel_rfl) (by kernel_rfl) ?hQ60 (Or.inl ⟨?hw60, ?hy60⟩) (by assumption) ?rest60
                  case hi60 => (simp only [List.getElem?_toArray, List.getElem?_cons_succ, List.getElem?_cons_zero]; rfl)
                  case hQ60 => exact fun _ _ _ h => h
                  case hw60 => rfl
                  case hy60 => (intro w hSw; (try dsimp only at hSw); go_simp; try with_reducible rfl)
                  (try simp only [Act.put, List.setIfInBounds_toArray, List.set_cons_zero, List.set_cons_succ])
                  refine wpAnyH_ready (rs := [0, 5]) (by kernel_rfl) (by simp) ?_
                  refine AllReadyH.cons (o := ?o61) ?ho61 (fun K hK => ?st61) (AllReadyH.cons (o := ?o62) ?ho62 (fun K hK => ?st62) AllReadyH.nil)
                  case ho61 => (simp only [List.getElem?_toArray, List.getElem?_cons_succ, List.getElem?_cons_zero]; rfl)
                  case ho62 => (simp only [List.getElem?_toArray, List.getElem?_cons_succ, List.getElem?_cons_zero]; rfl)
                  ·
                   go_simp
                   have hPre := hHeld
                   refine hK.out _ _ ?_ (fun hHeld => ?_)
                   · (try dsimp only); exact HALLx.out _ (btl hHeld.1 (alloc1 _ _))
                   clear hK K
                   (try simp only [Act.put, List.setIfInBounds_toArray, List.set_cons_zero, List.set_cons_succ])
                   have y_O := own_at (size := 5) hHeld.1 hPre.1.size
                   (try simp only [World.size_alloc] at y_O)
                   have OE := Lib.hid y_O
                   clear y_O hPre
                   refine wpAnyH_ready (rs := [3, 5]) (by kernel_rfl) (by simp) ?_
                   refine AllReadyH.cons (o := ?o63) ?ho63 (fun K hK => ?st63) (AllReadyH.cons (o := ?o64) ?ho64 (fun K hK => ?st64) AllReadyH.nil)
                   case ho63 => (simp only [List.getElem?_toArray, List.getElem?_cons_succ, List.getElem?_cons_zero]; rfl)
                   case ho64 => (simp only [List.getElem?_toArray, List.getElem?_cons_succ, List.getElem?_cons_zero]; rfl)
                   ·
                    refine step_append_rows rfl (.tmp 65) (.tmp 67) 29 rfl wc.heap.size 25 i1 (.agg #[.int .i64 0, .int .i64 0, .bool false, .string ⟨#[]⟩, .float .f64 0]) 5 48 Try.underlying29 hi1 hz1 hs1 hb1 (by rfl) (by decide) _ 0 ([]) rfl OE.out _ vs.length (vs.flatMap vcells) rfl (RWS.out.below hHeld.1) (vx_one vs) (by unfold maxLen; omega) (by omega) hHeld.1.size ?_
                    intro vA wA hownA hgrA hobA
                    have hbBA := grown_belowF hHeld.1 hgrA (own_baseF OE.out)
                    have OA := Lib.hid hownA
                    refine hK.out _ _ ?_ (fun hHeld => ?_)
                    · (try dsimp only); exact HALLx.out _ hbBA
                    clear hK K
                    (try simp only [Act.put, List.setIfInBounds_toArray, List.set_cons_zero, List.set_cons_succ])
                    refine wpAnyH_ready (rs := [5]) (by kernel_rfl) (by simp) ?_
                    refine AllReadyH.cons (o := ?o65) ?ho65 (fun K hK => ?st65) AllReadyH.nil
                    case ho65 => (simp only [List.getElem?_toArray, List.getElem?_cons_succ, List.getElem?_cons_zero]; rfl)
                    go_simp
                    refine hK.out _ _ ?_ (fun hHeld => ?_)
                    · (try dsimp only); exact HALLx.out _ (btl hHeld.1 (alloc1 _ _))
                    clear hK K
                    (try simp only [Act.put, List.setIfInBounds_toArray, List.set_cons_zero, List.set_cons_succ])
                    have y_R := rows_at (cs := vcells y) (size := 5) hHeld.1 rfl
                    (try simp only [World.size_alloc] at y_R)
                    have R8 := Lib.hid y_R
                    clear y_R
                    have y_A := own_alloc OA.out (.cells (vcells y).toArray 25)
                    clear OA
                    have OA := Lib.hid y_A
                    clear y_A
                    refine wpAnyH_ready (rs := [6]) (by kernel_rfl) (by simp) ?_
                    refine AllReadyH.cons (o := ?o66) ?ho66 (fun K hK => ?st66) AllReadyH.nil
                    case ho66 => (simp only [List.getElem?_toArray, List.getElem?_cons_succ, List.getElem?_cons_zero]; rfl)
                    refine step_append_rows rfl (.tmp 68) (.tmp 70) 29 rfl wc.heap.size 25 i1 (.agg #[.int .i64 0, .int .i64 0, .bool false, .string ⟨#[]⟩, .float .f64 0]) 5 48 Try.underlying29 hi1 hz1 hs1 hb1 (by rfl) (by decide) _ (0 + vs.length) ([] ++ vs.flatMap vcells) rfl OA.out _ 1 (vcells y) rfl R8.out (fun u hu => vx_one [y] u (by simpa using hu)) (by unfold maxLen; omega) (by omega) hHeld.1.size ?_
                    intro vB wB hownB hgrB hobB
                    have hbBB := grown_belowF hHeld.1 hgrB (own_baseF OA.out)
                    have OB := Lib.hid hownB
                    refine hK.out _ _ ?_ (fun hHeld => ?_)
                    · (try dsimp only); exact HALLx.out _ hbBB
                    clear hK K
                    (try simp only [Act.put, List.setIfInBounds_toArray, List.set_cons_zero, List.set_cons_succ])
                    refine wpAnyH_take (i := 7) (oi := ?oi67) (v := ?v67) ?hi67 (by kernel_rfl) (by kernel_rfl) (by kernel_rfl) ?hQ67 (Or.inl ⟨?hw67, ?hy67⟩) (by assumption) ?rest67
                    case hi67 => (simp only [List.getElem?_toArray, List.getElem?_cons_succ, List.getElem?_cons_zero]; rfl)
                    case hQ67 => exact fun _ _ _ h => h
                    case hw67 => rfl
                    case hy67 => (intro w hSw; (try dsimp only at hSw); go_simp; try with_reducible rfl)
                    (try simp only [Act.put, List.setIfInBounds_toArray, List.set_cons_zero, List.set_cons_succ])
                    refine wpAnyH_done (by kernel_rfl) ?_ _
                    obtain ⟨rA, rC, re, rk⟩ := vlk_own (ys := vs ++ [y]) (by have h := OB.out; simp only [List.nil_append, Nat.zero_add] at h; simpa using h)
                    have re2 : vB = .slice rA (vs.length + 1) rC := by rw [re]; simp
                    have RE := Lib.hid re2
                    clear re re2
                    go_wp2_with fail
                    go_meet
                    exact ⟨_, _, _, rfl, RE.out, hHeld.1, rk⟩
                   ·
                    go_simp
                    refine hK.out _ _ ?_ (fun hHeld => ?_)
                    · (try dsimp only); exact HALLx.out _ (btl hHeld.1 (alloc1 _ _))
                    clear hK K
                    (try simp only [Act.put, List.setIfInBounds_toArray, List.set_cons_zero, List.set_cons_succ])
                    have y_R := rows_at (cs := vcells y) (size := 5) hHeld.1 rfl
                    (try simp only [World.size_alloc] at y_R)
                    have R8 := Lib.hid y_R
                    clear y_R
                    have y_A := own_alloc OE.out (.cells (vcells y).toArray 25)
                    clear OE
                    have OE := Lib.hid y_A
                    clear y_A
                    refine wpAnyH_ready (rs := [3]) (by kernel_rfl) (by simp) ?_
                    refine AllReadyH.cons (o := ?o68) ?ho68 (fun K hK => ?st68) AllReadyH.nil
                    case ho68 => (simp only [List.getElem?_toArray, List.getElem?_cons_succ, List.getElem?_cons_zero]; rfl)
                    refine step_append_rows rfl (.tmp 65) (.tmp 67) 29 rfl wc.heap.size 25 i1 (.agg #[.int .i64 0, .int .i64 0, .bool false, .string ⟨#[]⟩, .float .f64 0]) 5 48 Try.underlying29 hi1 hz1 hs1 hb1 (by rfl) (by decide) _ 0 ([]) rfl OE.out _ vs.length (vs.flatMap vcells) rfl (RWS.out.below hHeld.1) (vx_one vs) (by unfold maxLen; omega) (by omega) hHeld.1.size ?_
                    intro vA wA hownA hgrA hobA
                    have hbBA := grown_belowF hHeld.1 hgrA (own_baseF OE.out)
                    have OA := Lib.hid hownA
                    have y_R := R8.out.grown hgrA (hne_of _ _ _ _ (by first | omega | (simp only [World.size_alloc]; done) | (simp only [World.size_alloc]; omega) | (simp; done) | (simp; omega)))
                    clear R8
                    have R8 := Lib.hid y_R
                    clear y_R
                    refine hK.out _ _ ?_ (fun hHeld => ?_)
                    · (try dsimp only); exact HALLx.out _ hbBA
                    clear hK K
                    (try simp only [Act.put, List.setIfInBounds_toArray, List.set_cons_zero, List.set_cons_succ])
                    refine wpAnyH_ready (rs := [6]) (by kernel_rfl) (by simp) ?_
                    refine AllReadyH.cons (o := ?o69) ?ho69 (fun K hK => ?st69) AllReadyH.nil
                    case ho69 => (simp only [List.getElem?_toArray, List.getElem?_cons_succ, List.getElem?_cons_zero]; rfl)
                    refine step_append_rows rfl (.tmp 68) (.tmp 70) 29 rfl wc.heap.size 25 i1 (.agg #[.int .i64 0, .int .i64 0, .bool false, .string ⟨#[]⟩, .float .f64 0]) 5 48 Try.underlying29 hi1 hz1 hs1 hb1 (by rfl) (by decide) _ (0 + vs.length) ([] ++ vs.flatMap vcells) rfl OA.out _ 1 (vcells y) rfl R8.out (fun u hu => vx_one [y] u (by simpa using hu)) (by unfold maxLen; omega) (by omega) hHeld.1.size ?_
                    intro vB wB hownB hgrB hobB
                    have hbBB := grown_belowF hHeld.1 hgrB (own_baseF OA.out)
                    have OB := Lib.hid hownB
                    refine hK.out _ _ ?_ (fun hHeld => ?_)
                    · (try dsimp only); exact HALLx.out _ hbBB
                    clear hK K
                    (try simp only [Act.put, List.setIfInBounds_toArray, List.set_cons_zero, List.set_cons_succ])
                    refine wpAnyH_take (i := 7) (oi := ?oi70) (v := ?v70) ?hi70 (by kernel_rfl) (by kernel_rfl) (by kernel_rfl) ?hQ70 (Or.inl ⟨?hw70, ?hy70⟩) (by assumption) ?rest70
                    case hi70 => (simp only [List.getElem?_toArray, List.getElem?_cons_succ, List.getElem?_cons_zero]; rfl)
                    case hQ70 => exact fun _ _ _ h => h
                    case hw70 => rfl
                    case hy70 => (intro w hSw; (try dsimp only at hSw); go_simp; try with_reducible rfl)
                    (try simp only [Act.put, List.setIfInBounds_toArray, List.set_cons_zero, List.set_cons_succ])
                    refine wpAnyH_done (by kernel_rfl) ?_ _
                    obtain ⟨rA, rC, re, rk⟩ := vlk_own (ys := vs ++ [y]) (by have h := OB.out; simp only [List.nil_append, Nat.zero_add] at h; simpa using h)
                    have re2 : vB = .slice rA (vs.length + 1) rC := by rw [re]; simp
                    have RE := Lib.hid re2
                    clear re re2
                    go_wp2_with fail
                    go_meet
                    exact ⟨_, _, _, rfl, RE.out, hHeld.1, rk⟩
                  ·
                   go_simp
                   refine hK.out _ _ ?_ (fun hHeld => ?_)
                   · (try dsimp only); exact HALLx.out _ (btl hHeld.1 (alloc1 _ _))
                   clear hK K
                   (try simp only [Act.put, List.setIfInBounds_toArray, List.set_cons_zero, List.set_cons_succ])
                   have y_R := rows_at (cs := vcells y) (size := 5) hHeld.1 rfl
                   (try simp only [World.size_alloc] at y_R)
                   have R8 := Lib.hid y_R
                   clear y_R
                   refine wpAnyH_ready (rs := [0]) (by kernel_rfl) (by simp) ?_
                   refine AllReadyH.cons (o := ?o71) ?ho71 (fun K hK => ?st71) AllReadyH.nil
                   case ho71 => (simp only [List.getElem?_toArray, List.getElem?_cons_succ, List.getElem?_cons_zero]; rfl)
                   go_simp
                   have hPre := hHeld
                   refine hK.out _ _ ?_ (fun hHeld => ?_)
                   · (try dsimp only); exact HALLx.out _ (btl hHeld.1 (alloc1 _ _))
                   clear hK K
                   (try simp only [Act.put, List.setIfInBounds_toArray, List.set_cons_zero, List.set_cons_succ])
                   have y_O := own_at (size := 5) hHeld.1 hPre.1.size
                   (try simp only [World.size_alloc] at y_O)
                   have OE := Lib.hid y_O
                   clear y_O hPre
                   have y_R := R8.out.below (alloc1 _ (.cells #[] 25))
                   clear R8
                   have R8 := Lib.hid y_R
                   clear y_R
                   refine wpAnyH_ready (rs := [3]) (by kernel_rfl) (by simp) ?_
                   refine AllReadyH.cons (o := ?o72) ?ho72 (fun K hK => ?st72) AllReadyH.nil
                   case ho72 => (simp only [List.getElem?_toArray, List.getElem?_cons_succ, List.getElem?_cons_zero]; rfl)
                   refine step_append_rows rfl (.tmp 65) (.tmp 67) 29 rfl wc.heap.size 25 i1 (.agg #[.int .i64 0, .int .i64 0, .bool false, .string ⟨#[]⟩, .float .f64 0]) 5 48 Try.underlying29 hi1 hz1 hs1 hb1 (by rfl) (by decide) _ 0 ([]) rfl OE.out _ vs.length (vs.flatMap vcells) rfl (RWS.out.below hHeld.1) (vx_one vs) (by unfold maxLen; omega) (by omega) hHeld.1.size ?_
                   intro vA wA hownA hgrA hobA
                   have hbBA := grown_belowF hHeld.1 hgrA (own_baseF OE.out)
                   have OA := Lib.hid hownA
                   have y_R := R8.out.grown hgrA (hne_of _ _ _ _ (by first | omega | (simp only [World.size_alloc]; done) | (simp only [World.size_alloc]; omega) | (simp; done) | (simp; omega)))
                   clear R8
                   have R8 := Lib.hid y_R
                   clear y_R
                   refine hK.out _ _ ?_ (fun hHeld => ?_)
                   · (try dsimp only); exact HALLx.out _ hbBA
                   clear hK K
                   (try simp only [Act.put, List.setIfInBounds_toArray, List.set_cons_zero, List.set_cons_succ])
                   refine wpAnyH_ready (rs := [6]) (by kernel_rfl) (by simp) ?_
                   refine AllReadyH.cons (o := ?o73) ?ho73 (fun K hK => ?st73) AllReadyH.nil
                   case ho73 => (simp only [List.getElem?_toArray, List.getElem?_cons_succ, List.getElem?_cons_zero]; rfl)
                   refine step_append_rows rfl (.tmp 68) (.tmp 70) 29 rfl wc.heap.size 25 i1 (.agg #[.int .i64 0, .int .i64 0, .bool false, .string ⟨#[]⟩, .float .f64 0]) 5 48 Try.underlying29 hi1 hz1 hs1 hb1 (by rfl) (by decide) _ (0 + vs.length) ([] ++ vs.flatMap vcells) rfl OA.out _ 1 (vcells y) rfl R8.out (fun u hu => vx_one [y] u (by simpa using hu)) (by unfold maxLen; omega) (by omega) hHeld.1.size ?_
                   intro vB wB hownB hgrB hobB
                   have hbBB := grown_belowF hHeld.1 hgrB (own_baseF OA.out)
                   have OB := Lib.hid hownB
                   refine hK.out _ _ ?_ (fun hHeld => ?_)
                   · (try dsimp only); exact HALLx.out _ hbBB
                   clear hK K
                   (try simp only [Act.put, List.setIfInBounds_toArray, List.set_cons_zero, List.set_cons_succ])
                   refine wpAnyH_take (i := 7) (oi := ?oi74) (v := ?v74) ?hi74 (by kernel_rfl) (by kernel_rfl) (by kernel_rfl) ?hQ74 (Or.inl ⟨?hw74, ?hy74⟩) (by assumption) ?rest74
                   case hi74 => (simp only [List.getElem?_toArray, List.getElem?_cons_succ, List.getElem?_cons_zero]; rfl)
                   case hQ74 => exact fun _ _ _ h => h
                   case hw74 => rfl
                   case hy74 => (intro w hSw; (try dsimp only at hSw); go_simp; try with_reducible rfl)
                   (try simp only [Act.put, List.setIfInBounds_toArray, List.set_cons_zero, List.set_cons_succ])
                   refine wpAnyH_done (by kernel_rfl) ?_ _
                   obtain ⟨rA, rC, re, rk⟩ := vlk_own (ys := vs ++ [y]) (by have h := OB.out; simp only [List.nil_append, Nat.zero_add] at h; simpa using h)
                   have re2 : vB = .slice rA (vs.length + 1) rC := by rw [re]; simp
                   have RE := Lib.hid re2
                   clear re re2
                   go_wp2_with fail
                   go_meet
                   exact ⟨_, _, _, rfl, RE.out, hHeld.1, rk⟩
                case rest =>
                  obtain ⟨qA, qC, v11, rfl, rfl, hB8, hvk⟩ := hcut
                  have S4 := Lib.hid (SK.out.below hB8)
                  have Y4 := Lib.hid (YK.out.below hB8)
                  have A4 := Lib.hid (A3.out.below hB8)
                  have hfd4 := FD.out.below hB8 (Nat.le_refl _)
                  have hmap : (qs ++ [q8 y.k]).map Fx8.f = fs ++ [⟨nmF, y.k⟩] := by rw [List.map_append, HQS.out]; rfl
                  rw [hmap] at hfd4
                  have hev2 := EV2.out (fs ++ [⟨nmF, y.k⟩]) (vs ++ [y]) rA qA rC qC _ S4.out.bel hfd4 hvk (fun v hv => by
                    rcases List.mem_append.1 hv with hv | hv
                    · exact HK.out.2.2.1 v hv
                    · rw [List.mem_singleton.1 hv]; exact HK.out.2.2.2)
                  rw [show (fs ++ [(⟨nmF, y.k⟩ : Fd)]).length = fs.length + 1 from by simp, show (vs ++ [y]).length = vs.length + 1 from by simp, PURE.out ⟨nmF, y.k⟩ HG.out rfl HU.out HX1.out] at hev2
                  have EVV := Lib.hid hev2
                  clear hev2 hfd4 hvk hmap hB8 SK YK
                  obtain ⟨d0, d1, d2, d3, d4, d5, d6, d7⟩ := S4.out.ex
                  go_wp2_with fail
                  refine EVV.out.mono ?_
                  rintro _ w9 ⟨rfl, hb9⟩
                  clear d0 d1 d2 d3 d4 d5 d6 d7
                  have S9 := Lib.hid ((S4.out.below hb9).below (alloc1 w9 (.cells #[.int .i64 a.k, .int .i64 a.i, .bool a.b, .string a.s, .float .f64 a.n] 25)))
                  obtain ⟨x0, x1, x2, x3, x4⟩ := (A4.out.below hb9).below (alloc1 w9 (.cells #[.int .i64 a.k, .int .i64 a.i, .bool a.b, .string a.s, .float .f64 a.n] 25))
                  have hsm2 : ∀ W, Calls Try.prog 10 #[agV a, agV a] W (VMk (.bool true) W) := fun W => by
                    have h := rSame_val a a W
                    rwa [same_self] at h
                  have SM := Lib.hid hsm2
                  clear hsm2 hb9
                  go_wp2_with fail
                  refine (SM.out _).mono ?_
                  rintro _ w10 ⟨rfl, hb10⟩
                  go_wp2_with fail
                  refine (AWK.out _).mono ?_
                  rintro _ w11 ⟨rfl, hb11⟩
                  go_wp2
                  go_ret
                  exact ⟨rfl, ((S9.out.below hb10).below hb11).bel⟩
            · rw [hu] at husr
              refine (husr _ S2.out.bel).mono ?_
              rintro _ w6 ⟨rfl, hb6⟩
              clear d0 d1 d2 d3 d4 d5 d6 d7 husr hu
              have S2 := Lib.hid (S2.out.below hb6)
              have Y2 := Lib.hid (Y2.out.below hb6)
              have A2 := Lib.hid (A2.out.below hb6)
              clear hb6
              go_wp2_with fail
              refine (AWK.out _).mono ?_
              rintro _ wf ⟨rfl, hbf⟩
              go_wp2
              go_ret
              exact ⟨rfl, (S2.out.below hbf).bel⟩
  · have htI : (200 : Int) < (y.s.size : Int) := by omega
    clear ht
    go_wp2
    go_ret
    exact ⟨rfl, S1.out.bel⟩
end Go.Proofs.Ytkhpgejammgolaa
