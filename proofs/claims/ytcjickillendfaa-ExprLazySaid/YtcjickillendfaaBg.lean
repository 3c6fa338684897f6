import Derived.Test.YtcjickillendfaaBf
/- Layer 5: is an expression small, by the document; does it name a field. -/
namespace Go.Proofs.Ytcjickillendfaa
open Go.RowKit
set_option linter.unusedVariables false
set_option linter.unusedSimpArgs false
set_option maxRecDepth 20000

theorem leftF_ge : ∀ (d : Nat) (e : Ex) (n : Int), 0 ≤ n → -1 ≤ leftF d e n
  | 0, e, n, _ => by show (-1 : Int) ≤ -1; omega
  | d + 1, e, n, h => by
    have hl : ∀ (ks : List Ex) (m : Int), -1 ≤ m → -1 ≤ leftL (leftF d) ks m := by
      intro ks
      induction ks with
      | nil => intro m hm; exact hm
      | cons k ks ih =>
        intro m hm
        unfold leftL
        split
        · exact hm
        · exact ih _ (leftF_ge d k m (by omega))
    exact hl e.kids (n - 1) (by omega)
set_option maxHeartbeats 2000000 in
theorem left_any : ∀ (D : Nat) (d : Nat) (e : Ex) (A : Option Addr) (c : Nat) (n deep : Int) (w : World), d ≤ 6 → deep = d → 0 ≤ n → n ≤ 24 → ExK w D A c e →
    Calls Try.prog 25 #[agX e.op A e.kids.length c e.name e.val, .int .i64 deep, .int .i64 n] w (VMk (.int .i64 (leftF d e n)) w)
  | 0, _, _, _, _, _, _, _, _, _, _, _, h => False.elim h
  | D + 1, d, e, A, c, n, deep, w, hd, hdeep, h0, h1, hx => by
    obtain ⟨h2, h3, h4, h5⟩ := hx
    have ih := left_any D
    unfold maxLen at h3
    have hlen : e.kids.length ≤ 9223372036854775807 := by omega
    have hwn : IntKind.i64.wrap (n - 1) = n - 1 := by rw [IntKind.wrap_i64]; omega
    cases d with
    | zero =>
      subst hdeep
      have hr : leftF 0 e n = -1 := rfl
      rw [hr]
      clear hr ih h5 h3 h4 h2 hd
      go_enter Try.func25, Try.ntmps25
      go_wp2
      go_ret
      exact ⟨rfl, (Below.refl _ _).alloc (Nat.le_refl _) _⟩
    | succ d' =>
      have hm : leftF (d' + 1) e n = leftL (leftF d') e.kids (n - 1) := rfl
      rw [hm]
      have hwd : IntKind.i64.wrap (deep - 1) = deep - 1 := by rw [IntKind.wrap_i64]; omega
      have hdp : ¬ deep < 1 := by omega
      have HIH := Lib.hid (fun e A c n W (hx : ExK w D A c e) (hn : 0 ≤ n) (hn4 : n ≤ 24) (hB : Below w.heap.size w W) => ih d' e A c n (deep - 1) W (by omega) (by omega) hn hn4 (hx.below hB (Nat.le_refl _)))
      have H5 := Lib.hid h5
      have HD := Lib.hid (And.intro hd hdeep)
      clear hm ih h5 hd hdeep h2 h3 h4
      generalize e.kids = ks at *
      generalize e.op = eop at *
      generalize e.name = enm at *
      generalize e.val = ev at *
      have hbx := Lib.hid (Kid_new w eop A ks.length c enm ev)
      go_enter Try.func25, Try.ntmps25
      go_wp2
      go_loopw [2, 7] (fun nv i wr => ∃ (k : Nat) (m : Int), k ≤ ks.length ∧ nv = .int .i64 m ∧ i = .int .i64 k ∧ leftL (leftF d') (ks.drop k) m = leftL (leftF d') ks (n - 1) ∧ -1 ≤ m ∧ m ≤ 24 ∧ Below w.heap.size w wr ∧ wr.cell? ⟨w.heap.size, 1, none⟩ = some (.slice A ks.length c)) (fun _ i _ => ks.length - (intOf i).toNat)
      case atStart => exact ⟨0, n - 1, Nat.zero_le _, rfl, rfl, rfl, by omega, by omega, (Below.refl _ _).alloc (Nat.le_refl _) _, hbx.out.2.1⟩
      case round =>
        obtain ⟨k, m, hk, rfl, rfl, hm, hm0, hm4, hb, hc⟩ := hrel
        by_cases hlt : k < ks.length
        · by_cases hp : 0 ≤ m
          · obtain ⟨ad, A', c', rfl, hbl, hkid, hsub⟩ := H5.out k hlt
            obtain ⟨q0, q1, q2, q3, q4, q5, q6, q7⟩ := hkid.below hb (by rw [block_add]; exact hbl)
            have hcall := HIH.out ks[k] A' c' m wr hsub hp hm4 hb
            have hdr := leftL_drop (leftF d') ks k hlt m hp
            have hle := leftF_le d' ks[k] m
            have hge := leftF_ge d' ks[k] m hp
            rw [hdr] at hm
            generalize leftF d' ks[k] m = m' at hcall hm hle hge
            generalize ks[k].op = ko at q0 hcall
            generalize ks[k].name = kn at q2 hcall
            generalize ks[k].val = ky at q3 q4 q5 q6 q7 hcall
            generalize ks[k].kids.length = kl at q1 hcall
            have HC := Lib.hid hcall
            have HM := Lib.hid hm
            have hcl := World.block_lt_of_cell? wr _ hc
            have hltI : (k : Int) < (ks.length : Int) := by omega
            clear hcall hm hdr hkid hsub
            go_wp2_with (go_at_call 25; refine HC.out.mono ?_; rintro e w2 ⟨rfl, hb2⟩)
            go_roundw
            case rel => exact ⟨k + 1, m', by omega, rfl, by go_num, HM.out, hge, by omega, hb.trans (hb2.mono hb.size), keepc hb2 hcl hc⟩
            case measure => simp [intOf]; omega
          · have hr : m = leftL (leftF d') ks (n - 1) := by rw [← hm, leftL_neg _ _ _ (by omega)]
            have HR := Lib.hid hr
            have hltI : (k : Int) < (ks.length : Int) := by omega
            clear hr hm
            go_wp2
            go_ret
            exact ⟨ret_int HR.out, hb⟩
        · obtain rfl : k = ks.length := by omega
          have hr : m = leftL (leftF d') ks (n - 1) := by rw [← hm, List.drop_length]; rfl
          have HR := Lib.hid hr
          clear hr hm
          go_wp2
          go_ret
          exact ⟨ret_int HR.out, hb⟩
theorem rSmall_any (D : Nat) (e : Ex) (A : Option Addr) (c : Nat) (w : World) (hx : ExK w D A c e) : Calls Try.prog 15 #[agX e.op A e.kids.length c e.name e.val] w (VMk (.bool (smallX e)) w) := by
  have hl := fun o => left_any D 6 e A c 24 6 (w.alloc o) (by omega) (by decide) (by decide) (by decide) (hx.below ((Below.refl w.heap.size w).alloc (Nat.le_refl _) o) (Nat.le_refl _))
  have hs : smallX e = decide (0 ≤ leftF 6 e 24) := rfl
  rw [hs]
  clear hs hx
  generalize leftF 6 e 24 = m at *
  generalize e.kids.length = n at *
  generalize e.op = eop at *
  generalize e.name = enm at *
  generalize e.val = ev at *
  have HL := Lib.hid hl
  clear hl
  go_enter Try.func15, Try.ntmps15
  go_wp2_with (go_at_call 25; refine (HL.out _).mono ?_; rintro e w1 ⟨rfl, hb1⟩)
  go_ret
  exact ⟨rfl, ((Below.refl _ _).alloc (Nat.le_refl _) _).trans (hb1.mono (by simp))⟩
end Go.Proofs.Ytcjickillendfaa

/- Layer 5: ExprLazy, by definition; three kids laid in a row. -/
namespace Go.Proofs.Ytcjickillendfaa
open Go.RowKit
set_option linter.unusedVariables false
set_option linter.unusedSimpArgs false
set_option maxRecDepth 20000

theorem setV_2 {v : Vl} (h : v.k = 2) : setV v = v := by unfold setV; rw [if_neg (by omega)]
/-- a truth that Eval tells is what evX tells -/
theorem lz_eval {e : Ex} {fs : List Fd} {vs : List Vl} {v : Vl} (hc : checkX e fs = (2, 0)) (he : evalP e fs vs = (v, 0)) (hok : okX 6 e) (hvs : ∀ v ∈ vs, okV v) :
    evalX e fs vs = (v, 0) ∧ goodV v = true ∧ v.k = 2 ∧ okV v := by
  obtain ⟨h1, h2⟩ := lz_small hc
  unfold evalP at he
  rw [hc, if_neg (fun h => h rfl)] at he
  cases hf : fitX fs vs with
  | false => rw [hf, if_neg (by decide)] at he; injection he with _ he; exact absurd he (by decide)
  | true =>
    rw [hf, if_pos rfl] at he
    have hs := ev_sound fs vs hf hvs 6 e 2 hok h1 h2
    unfold endV at he
    rcases hs with ⟨s0, s1, s2, s3⟩ | ⟨s1, s2⟩
    · rw [if_pos s0] at he
      injection he with he _
      rw [setV_2 s3] at he
      refine ⟨?_, by rw [← he]; exact s1, by rw [← he]; exact s3, by rw [← he]; exact s2⟩
      unfold evalX
      rw [hc, if_neg (fun h => h rfl), hf, if_pos rfl]
      exact Prod.ext he s0
    · rw [if_neg (by omega)] at he
      injection he with _ he
      omega
theorem evalP_of {t : Ex} {fs : List Fd} {vs : List Vl} {v : Vl} (h : evalX t fs vs = (v, 0)) (h2 : v.k = 2) : evalP t fs vs = (v, 0) := by
  unfold evalX at h
  unfold evalP
  by_cases h0 : (checkX t fs).2 ≠ 0
  · rw [if_pos h0] at h; injection h with _ h; exact absurd h h0
  · rw [if_neg h0] at h ⊢
    cases hf : fitX fs vs with
    | false => rw [hf, if_neg (by decide)] at h; injection h with _ h; exact absurd h (by decide)
    | true =>
      rw [hf, if_pos rfl] at h
      rw [if_pos rfl, h]
      unfold endV
      rw [if_pos rfl, setV_2 h2]
/-- 5.2: what the law's four tell, where they are small -/
theorem lz_if_t {e : Ex} {fs : List Fd} {vs : List Vl} {v : Vl} (hc : checkX e fs = (2, 0)) (he : evalP e fs vs = (v, 0)) (hok : okX 6 e) (hvs : ∀ v ∈ vs, okV v) (hb : v.b = true) (hs : smallX (opX 13 [e, conX v, nought]) = true) : evalP (opX 13 [e, conX v, nought]) fs vs = (v, 0) := by
  obtain ⟨h1, h2, h3, h4⟩ := lz_eval hc he hok hvs
  exact evalP_of (lazy_if hc h1 hs (by rw [← h3]; exact chk_con 4 v fs h2) (chk_nought 2 fs) (by rw [if_pos hb]; exact ev_con 4 v fs vs)) h3
theorem lz_if_f {e : Ex} {fs : List Fd} {vs : List Vl} {v : Vl} (hc : checkX e fs = (2, 0)) (he : evalP e fs vs = (v, 0)) (hok : okX 6 e) (hvs : ∀ v ∈ vs, okV v) (hb : v.b = false) (hs : smallX (opX 13 [e, nought, conX v]) = true) : evalP (opX 13 [e, nought, conX v]) fs vs = (v, 0) := by
  obtain ⟨h1, h2, h3, h4⟩ := lz_eval hc he hok hvs
  exact evalP_of (lazy_if hc h1 hs (chk_nought 2 fs) (by rw [← h3]; exact chk_con 4 v fs h2) (by rw [hb, if_neg (by decide)]; exact ev_con 4 v fs vs)) h3
theorem lz_or {e : Ex} {fs : List Fd} {vs : List Vl} {v : Vl} (hc : checkX e fs = (2, 0)) (he : evalP e fs vs = (v, 0)) (hok : okX 6 e) (hvs : ∀ v ∈ vs, okV v) (o : Int) (ho : o = 10 ∨ o = 11) (hb : v.b = decide (o = 11)) (hs : smallX (opX o [e, nought]) = true) : evalP (opX o [e, nought]) fs vs = (v, 0) := by
  obtain ⟨h1, h2, h3, h4⟩ := lz_eval hc he hok hvs
  exact evalP_of (lazy_or ho hc h1 hs (chk_nought 2 fs) hb) h3
/-- three kids laid in a new row -/
abbrev row3 (p0 : Int) (A0 : Option Addr) (n0 c0 : Nat) (m0 : ByteArray) (y0 : Vl) (p1 : Int) (A1 : Option Addr) (n1 c1 : Nat) (m1 : ByteArray) (y1 : Vl) (p2 : Int) (A2 : Option Addr) (n2 c2 : Nat) (m2 : ByteArray) (y2 : Vl) : Obj :=
  .cells #[.int .i64 p0, .slice A0 n0 c0, .string m0, .int .i64 y0.k, .int .i64 y0.i, .bool y0.b, .string y0.s, .float .f64 y0.n, .int .i64 p1, .slice A1 n1 c1, .string m1, .int .i64 y1.k, .int .i64 y1.i, .bool y1.b, .string y1.s, .float .f64 y1.n, .int .i64 p2, .slice A2 n2 c2, .string m2, .int .i64 y2.k, .int .i64 y2.i, .bool y2.b, .string y2.s, .float .f64 y2.n] 27
theorem ExE.three {w : World} {A0 A1 A2 : Option Addr} {c0 c1 c2 : Nat} {e0 e1 e2 : Ex} (o : Int) (h0 : ExE w A0 c0 e0) (h1 : ExE w A1 c1 e1) (h2 : ExE w A2 c2 e2) :
    ExE (w.alloc (row3 e0.op A0 e0.kids.length c0 e0.name e0.val e1.op A1 e1.kids.length c1 e1.name e1.val e2.op A2 e2.kids.length c2 e2.name e2.val)) (some ⟨w.heap.size, 0, none⟩) 3 (opX o [e0, e1, e2]) := by
  obtain ⟨D0, h0⟩ := h0
  obtain ⟨D1, h1⟩ := h1
  obtain ⟨D2, h2⟩ := h2
  have hn := heap_alloc_new w (row3 e0.op A0 e0.kids.length c0 e0.name e0.val e1.op A1 e1.kids.length c1 e1.name e1.val e2.op A2 e2.kids.length c2 e2.name e2.val)
  have hb : Below w.heap.size w (w.alloc (row3 e0.op A0 e0.kids.length c0 e0.name e0.val e1.op A1 e1.kids.length c1 e1.name e1.val e2.op A2 e2.kids.length c2 e2.name e2.val)) := alloc1 _ _
  have g0 := (h0.upto (D1 + D2)).below hb (Nat.le_refl _)
  have g1 := (h1.upto (D0 + D2)).below hb (Nat.le_refl _)
  have g2 := (h2.upto (D0 + D1)).below hb (Nat.le_refl _)
  rw [show D1 + (D0 + D2) = D0 + (D1 + D2) by omega] at g1
  rw [show D2 + (D0 + D1) = D0 + (D1 + D2) by omega] at g2
  refine ⟨D0 + (D1 + D2) + 1, Nat.le_refl _, by unfold maxLen; show 3 ≤ 2 ^ 63 - 1; omega, fun h => (by cases h), fun j hj => ?_⟩
  have hj2 : j < 3 := hj
  match j, hj2 with
  | 0, _ => exact ⟨_, A0, c0, rfl, by simp, by rw [Addr.add_lit]; exact kid_row _ _ _ _ _ hn _ _ _ _ _ _ rfl rfl rfl rfl rfl rfl rfl rfl, g0⟩
  | 1, _ => exact ⟨_, A1, c1, rfl, by simp, by rw [Addr.add_lit]; exact kid_row _ _ _ _ _ hn _ _ _ _ _ _ rfl rfl rfl rfl rfl rfl rfl rfl, g1⟩
  | 2, _ => exact ⟨_, A2, c2, rfl, by simp, by rw [Addr.add_lit]; exact kid_row _ _ _ _ _ hn _ _ _ _ _ _ rfl rfl rfl rfl rfl rfl rfl rfl, g2⟩
end Go.Proofs.Ytcjickillendfaa

/- Layer 5: ExprLazy. (Made by gen/genlazy.py.) -/
namespace Go.Proofs.Ytcjickillendfaa
open Go.RowKit
set_option linter.unusedVariables false
set_option linter.unusedSimpArgs false
set_option maxRecDepth 20000

/-- a value's block -/
def Vb5 (W : World) (b : Nat) : Prop := ∃ cs, W.heap[b]? = some (.cells cs 25 (0, 0)) ∧ cs.size = 5
theorem Vb5.below {W W' : World} {b : Nat} (h : Vb5 W b) (hb : Below W.heap.size W W') : Vb5 W' b := let ⟨cs, h1, h2⟩ := h; ⟨cs, (hb.block b (Array.getElem?_eq_some_iff.1 h1).1).trans h1, h2⟩
theorem Vb5.open {W : World} {b : Nat} (h : Vb5 W b) : ∃ u0 u1 u2 u3 u4, W.cell? ⟨b, 0, none⟩ = some u0 ∧ W.cell? ⟨b, 1, none⟩ = some u1 ∧ W.cell? ⟨b, 2, none⟩ = some u2 ∧ W.cell? ⟨b, 3, none⟩ = some u3 ∧ W.cell? ⟨b, 4, none⟩ = some u4 ∧ (∀ j, W.frozen? ⟨b, j, none⟩ = false) := by
  obtain ⟨cs, h1, h2⟩ := h
  have hat : ∀ (j : Nat) (hj : j < 5), W.cell? ⟨b, j, none⟩ = some (cs[j]'(by omega)) := fun j hj => by
    have := cell_of_row W b j _ _ (0, 0) h1
    rw [this, Array.getElem?_eq_getElem (by omega)]
  exact ⟨_, _, _, _, _, hat 0 (by omega), hat 1 (by omega), hat 2 (by omega), hat 3 (by omega), hat 4 (by omega), fun j => by unfold World.frozen?; simp only [h1]; simp⟩
theorem btl {a b c : World} (h : Below a.heap.size a b) (k : Below b.heap.size b c) : Below a.heap.size a c := h.trans (k.mono h.size)
/-- what stands while the law's expressions are built -/
structure LzA (w : World) (FA : Option Addr) (fn FC : Nat) (VA : Option Addr) (vn VC : Nat) (op : Int) (A : Option Addr) (n c : Nat) (nm : ByteArray) (ev : Vl) (b7 : Nat) (v : Vl) (bz gz : Nat) (W : World) : Prop where
  sb : SB w FA fn FC VA vn VC op A n c nm ev W
  v7 : Bx W b7 v
  z : CellsX W bz 8 (some ⟨gz, 0, none⟩) 2 2 ⟨#[]⟩ vZero
theorem LzA.below {w : World} {FA : Option Addr} {fn FC : Nat} {VA : Option Addr} {vn VC : Nat} {op : Int} {A : Option Addr} {n c : Nat} {nm : ByteArray} {ev : Vl} {b7 : Nat} {v : Vl} {bz gz : Nat} {W W' : World} (h : LzA w FA fn FC VA vn VC op A n c nm ev b7 v bz gz W) (hb : Below W.heap.size W W') : LzA w FA fn FC VA vn VC op A n c nm ev b7 v bz gz W' :=
  ⟨h.sb.below hb, h.v7.below hb, h.z.below hb⟩
theorem bel_atL {w : World} {FA : Option Addr} {fn FC : Nat} {VA : Option Addr} {vn VC : Nat} {op : Int} {A : Option Addr} {n c : Nat} {nm : ByteArray} {ev : Vl} {b7 : Nat} {v : Vl} {bz gz : Nat} {W : World} {o : Obj} (h : LzA w FA fn FC VA vn VC op A n c nm ev b7 v bz gz (W.alloc o)) : Below W.heap.size W (W.alloc o) := alloc1 W o
theorem two_atL {w : World} {FA : Option Addr} {fn FC : Nat} {VA : Option Addr} {vn VC : Nat} {op : Int} {A : Option Addr} {n c : Nat} {nm : ByteArray} {ev : Vl} {b7 : Nat} {v : Vl} {bz gz : Nat} {W : World} {A0 A1 : Option Addr} {c0 c1 : Nat} (e0 e1 : Ex) (o : Int)
    (h : LzA w FA fn FC VA vn VC op A n c nm ev b7 v bz gz (W.alloc (row2 e0.op A0 e0.kids.length c0 e0.name e0.val e1.op A1 e1.kids.length c1 e1.name e1.val))) (h0 : ExE W A0 c0 e0) (h1 : ExE W A1 c1 e1) :
    ExE (W.alloc (row2 e0.op A0 e0.kids.length c0 e0.name e0.val e1.op A1 e1.kids.length c1 e1.name e1.val)) (some ⟨W.heap.size, 0, none⟩) 2 (opX o [e0, e1]) := ExE.two o h0 h1
theorem three_atL {w : World} {FA : Option Addr} {fn FC : Nat} {VA : Option Addr} {vn VC : Nat} {op : Int} {A : Option Addr} {n c : Nat} {nm : ByteArray} {ev : Vl} {b7 : Nat} {v : Vl} {bz gz : Nat} {W : World} {A0 A1 A2 : Option Addr} {c0 c1 c2 : Nat} (e0 e1 e2 : Ex) (o : Int)
    (h : LzA w FA fn FC VA vn VC op A n c nm ev b7 v bz gz (W.alloc (row3 e0.op A0 e0.kids.length c0 e0.name e0.val e1.op A1 e1.kids.length c1 e1.name e1.val e2.op A2 e2.kids.length c2 e2.name e2.val))) (h0 : ExE W A0 c0 e0) (h1 : ExE W A1 c1 e1) (h2 : ExE W A2 c2 e2) :
    ExE (W.alloc (row3 e0.op A0 e0.kids.length c0 e0.name e0.val e1.op A1 e1.kids.length c1 e1.name e1.val e2.op A2 e2.kids.length c2 e2.name e2.val)) (some ⟨W.heap.size, 0, none⟩) 3 (opX o [e0, e1, e2]) := ExE.three o h0 h1 h2
theorem vbB {wr W : World} {u0 u1 u2 u3 u4 : Value} (h : Below wr.heap.size wr (W.alloc (.cells #[u0, u1, u2, u3, u4] 25))) : Vb5 (W.alloc (.cells #[u0, u1, u2, u3, u4] 25)) W.heap.size := ⟨_, heap_alloc_new _ _, rfl⟩
theorem same_self (v : Vl) : sameV v v = true := by unfold sameV; simp
theorem ok5_con {d : Nat} {v : Vl} (h : okV v) : okX (d + 1) (conX v) := ⟨h, show in64 1 by unfold in64; omega, fun k hk => by cases hk⟩
theorem ok5_op {d : Nat} {o : Int} {ks : List Ex} (ho : in64 o) (h : ∀ k ∈ ks, okX d k) : okX (d + 1) (opX o ks) := ⟨ok_zero, ho, h⟩
theorem ok5_two {d : Nat} {o : Int} {a b : Ex} (ho : in64 o) (ha : okX d a) (hb : okX d b) : okX (d + 1) (opX o [a, b]) := ok5_op ho fun k hk => by
  rcases List.mem_cons.1 hk with rfl | hk
  · exact ha
  · rcases List.mem_cons.1 hk with rfl | hk
    · exact hb
    · cases hk
set_option maxHeartbeats 2000000 in
theorem ExprLazy_any (FA : Option Addr) (FC : Nat) (fs : List Fd) (VA : Option Addr) (VC : Nat) (vs : List Vl) (D : Nat) (e : Ex) (A : Option Addr) (c : Nat) (w : World) (hx : ExK w D A c e) (hf : FdK w FA FC fs) (hv : VlK w VA VC vs) (hok : ∀ k, okX k e) (hvs : ∀ v ∈ vs, okV v) (awk : ∀ W, Calls Try.prog 9 #[] W (VMk (.bool true) W)) :
    Calls Try.prog 4 #[agX e.op A e.kids.length c e.name e.val, .agg #[.slice FA fs.length FC, .slice VA vs.length VC]] w (VMk (.bool true) w) := by
  have hsf := fun (w : World) (a : Addr) (m : Mode) (b : Nat) => run_store Try.prog w a (.float .f64 b) m rfl
  have FEW := Lib.hid (fun W (hb : Below w.heap.size w W) => few5_any FA FC fs VA VC vs W (hf.below hb (Nat.le_refl _)) (hv.below hb (Nat.le_refl _)))
  have hchk := (fun W (hb : Below w.heap.size w W) => eCheck_any FA FC fs D e A c W (hx.below hb (Nat.le_refl _)) (hf.below hb (Nat.le_refl _)))
  have hev := (fun W (hb : Below w.heap.size w W) => Eval_any FA FC fs VA VC vs D e A c W (hx.below hb (Nat.le_refl _)) (hf.below hb (Nat.le_refl _)) (hv.below hb (Nat.le_refl _)) (hok 6) hvs)
  have EVT := Lib.hid (fun (W : World) (hb : Below w.heap.size w W) (A' : Option Addr) (c' : Nat) (t : Ex) (r : Vl × Int) (ht : ExE W A' c' t) (hokt : okX 6 t) (hr : evalP t fs vs = r) => (show Calls Try.prog 10 #[agX t.op A' t.kids.length c' t.name t.val, .slice FA fs.length FC, .slice VA vs.length VC] W (VMk (pairVE r.1 r.2) W) from by
    obtain ⟨D', ht⟩ := ht
    have h := Eval_any FA FC fs VA VC vs D' t A' c' W ht (hf.below hb (Nat.le_refl _)) (hv.below hb (Nat.le_refl _)) hokt hvs
    rwa [hr] at h))
  have AWK := Lib.hid awk
  have i1 := Lib.hid (fun W => rIntV_any 1 W)
  have i0 := Lib.hid (fun W => rIntV_any 0 W)
  have cn := Lib.hid con_any
  have on := Lib.hid op_any
  have HX : Hid (ExE w A c e) := Lib.hid ⟨D, hx⟩
  have HP := Lib.hid (And.intro hok hvs)
  clear awk hx hf hv hok hvs
  obtain ⟨eop, enm, ev, ks⟩ := e
  have hbn := Lib.hid (SB.new w FA fs.length FC VA vs.length VC eop A ks.length c enm ev 31)
  have hrv : ∃ v y, evalP (.mk eop enm ev ks) fs vs = (v, y) := ⟨_, _, rfl⟩
  obtain ⟨v, y, hrv⟩ := hrv
  have hck : ∃ k x, checkX (.mk eop enm ev ks) fs = (k, x) := ⟨_, _, rfl⟩
  obtain ⟨k, x, hck⟩ := hck
  rw [hck] at hchk
  rw [hrv] at hev
  have CHK : Hid (∀ W, Below w.heap.size w W → Calls Try.prog 7 #[agX eop A ks.length c enm ev, .slice FA fs.length FC] W (VMk (pairII (k, x)) W)) := Lib.hid hchk
  have EV : Hid (∀ W, Below w.heap.size w W → Calls Try.prog 10 #[agX eop A ks.length c enm ev, .slice FA fs.length FC, .slice VA vs.length VC] W (VMk (pairVE v y) W)) := Lib.hid hev
  have HCK := Lib.hid hck
  have HRV := Lib.hid hrv
  clear hchk hev hck hrv
  go_enter Try.func4, Try.ntmps4
  go_wp2_with fail
  refine (FEW.out _ hbn.out.bel).mono ?_
  rintro _ w1 ⟨bb, rfl, hb1, -⟩
  have S1 := Lib.hid (hbn.out.below hb1)
  clear hbn hb1
  rcases bb with _ | _
  · go_wp2
    go_ret
    exact ⟨rfl, S1.out.bel⟩
  obtain ⟨d0, d1, d2, d3, d4, d5, d6, d7⟩ := S1.out.ex
  have sf := S1.out.f
  have sv := S1.out.v
  go_wp2_with fail
  refine (CHK.out _ S1.out.bel).mono ?_
  rintro _ w2 ⟨rfl, hb2⟩
  clear d0 d1 d2 d3 d4 d5 d6 d7 sf sv
  have S2 := Lib.hid (S1.out.below hb2)
  clear S1 hb2 CHK
  obtain ⟨d0, d1, d2, d3, d4, d5, d6, d7⟩ := S2.out.ex
  have sf := S2.out.f
  have sv := S2.out.v
  go_wp2_with fail
  refine (EV.out _ S2.out.bel).mono ?_
  rintro _ w3 ⟨rfl, hb3⟩
  clear d0 d1 d2 d3 d4 d5 d6 d7 sf sv
  have S3 := Lib.hid (S2.out.below hb3)
  clear S2 hb3 EV
  have fin : ∀ W, SB w FA fs.length FC VA vs.length VC eop A ks.length c enm ev W → Below w.heap.size w W := fun W h => h.bel
  have S4 := Lib.hid (S3.out.below (alloc1 w3 (.cells #[.int .i64 v.k, .int .i64 v.i, .bool v.b, .string v.s, .float .f64 v.n] 25)))
  have V4 := Lib.hid (Bx.new w3 v)
  clear S3 fin
  by_cases hx0 : x = 0
  · by_cases hy0 : y = 0
    · by_cases hk2 : k = 2
      · subst hx0 hy0 hk2
        go_wp2_with fail
        generalize w3.alloc (.cells #[.int .i64 v.k, .int .i64 v.i, .bool v.b, .string v.s, .float .f64 v.n] 25) = w4 at *
        generalize w3.heap.size = b7 at *
        have E4 := Lib.hid (HX.out.below S4.out.bel)
        go_wp2_with fail
        refine (i1.out _).mono ?_
        rintro _ w5 ⟨rfl, hbx⟩
        have S4 := Lib.hid (S4.out.below hbx)
        have V4 := Lib.hid (V4.out.below hbx)
        have E4 := Lib.hid (E4.out.below hbx)
        clear hbx
        go_wp2_with fail
        refine (cn.out (vInt 1) _).mono ?_
        rintro _ w6 ⟨rfl, hbx⟩
        have S4 := Lib.hid (S4.out.below hbx)
        have V4 := Lib.hid (V4.out.below hbx)
        have E4 := Lib.hid (E4.out.below hbx)
        clear hbx
        go_wp2_with fail
        refine (i0.out _).mono ?_
        rintro _ w7 ⟨rfl, hbx⟩
        have S4 := Lib.hid (S4.out.below hbx)
        have V4 := Lib.hid (V4.out.below hbx)
        have E4 := Lib.hid (E4.out.below hbx)
        clear hbx
        go_wp2_with fail
        refine (cn.out (vInt 0) _).mono ?_
        rintro _ w8 ⟨rfl, hbx⟩
        have S4 := Lib.hid (S4.out.below hbx)
        have V4 := Lib.hid (V4.out.below hbx)
        have E4 := Lib.hid (E4.out.below hbx)
        clear hbx
        go_wp2_with fail
        refine (on.out 7 _ _ _ _).mono ?_
        rintro _ w9 ⟨rfl, hbx⟩
        have S4 := Lib.hid ((S4.out.below (alloc1 _ _)).below hbx)
        have V4 := Lib.hid ((V4.out.below (alloc1 _ _)).below hbx)
        have E4 := Lib.hid ((E4.out.below (alloc1 _ _)).below hbx)
        have X7 := Lib.hid ((ExE.two 7 (ExE.leaf w8 (conX (vInt 1)) rfl) (ExE.leaf w8 (conX (vInt 0)) rfl)).below hbx)
        clear hbx
        go_wp2_with fail
        refine (i1.out _).mono ?_
        rintro _ w10 ⟨rfl, hbx⟩
        have S4 := Lib.hid (S4.out.below hbx)
        have V4 := Lib.hid (V4.out.below hbx)
        have E4 := Lib.hid (E4.out.below hbx)
        have X7 := Lib.hid (X7.out.below hbx)
        clear hbx
        go_wp2_with fail
        refine (cn.out (vInt 1) _).mono ?_
        rintro _ w11 ⟨rfl, hbx⟩
        have S4 := Lib.hid (S4.out.below hbx)
        have V4 := Lib.hid (V4.out.below hbx)
        have E4 := Lib.hid (E4.out.below hbx)
        have X7 := Lib.hid (X7.out.below hbx)
        clear hbx
        go_wp2_with fail
        refine (on.out 8 _ _ _ _).mono ?_
        rintro _ w12 ⟨rfl, hbx⟩
        have S4 := Lib.hid ((S4.out.below (alloc1 _ _)).below hbx)
        have V4 := Lib.hid ((V4.out.below (alloc1 _ _)).below hbx)
        have E4 := Lib.hid ((E4.out.below (alloc1 _ _)).below hbx)
        have XZ := Lib.hid ((ExE.two 8 X7.out (ExE.leaf w11 (conX (vInt 1)) rfl)).below hbx)
        clear hbx X7
        go_upto_region 8 with fail
        have hlz : LzA w FA fs.length FC VA vs.length VC eop A ks.length c enm ev b7 v w12.heap.size w11.heap.size (w12.alloc (.cells #[.int .i64 8, .slice (some ⟨w11.heap.size, 0, none⟩) 2 2, .string { data := #[] }, .int .i64 0, .int .i64 0, .bool false, .string { data := #[] }, .float .f64 0] 27)) := ⟨S4.out.below (alloc1 _ _), V4.out.below (alloc1 _ _), Kid_new w12 8 (some ⟨w11.heap.size, 0, none⟩) 2 2 ⟨#[]⟩ vZero⟩
        have hfe := E4.out.below (alloc1 w12 (.cells #[.int .i64 8, .slice (some ⟨w11.heap.size, 0, none⟩) 2 2, .string { data := #[] }, .int .i64 0, .int .i64 0, .bool false, .string { data := #[] }, .float .f64 0] 27))
        have hfz := XZ.out.below (alloc1 w12 (.cells #[.int .i64 8, .slice (some ⟨w11.heap.size, 0, none⟩) 2 2, .string { data := #[] }, .int .i64 0, .int .i64 0, .bool false, .string { data := #[] }, .float .f64 0] 27))
        generalize w12.alloc (.cells #[.int .i64 8, .slice (some ⟨w11.heap.size, 0, none⟩) 2 2, .string { data := #[] }, .int .i64 0, .int .i64 0, .bool false, .string { data := #[] }, .float .f64 0] 27) = wS at *
        clear S4 V4 E4 XZ
        generalize w12.heap.size = bz at *
        generalize w11.heap.size = gz at *
        have LZ := Lib.hid hlz
        have FE := Lib.hid hfe
        have FZ : Hid (ExE wS (some ⟨gz, 0, none⟩) 2 nought) := Lib.hid hfz
        clear hlz hfe hfz
        have hall := fun (W : World) (h : LzA w FA fs.length FC VA vs.length VC eop A ks.length c enm ev b7 v bz gz W) => (show LzA w FA fs.length FC VA vs.length VC eop A ks.length c enm ev b7 v bz gz W ∧ (W.cell? ⟨w.heap.size, 0, none⟩ = some (.int .i64 eop) ∧ W.cell? ⟨w.heap.size, 1, none⟩ = some (.slice A ks.length c) ∧ W.cell? ⟨w.heap.size, 2, none⟩ = some (.string enm) ∧ W.cell? ⟨w.heap.size, 3, none⟩ = some (.int .i64 ev.k) ∧ W.cell? ⟨w.heap.size, 4, none⟩ = some (.int .i64 ev.i) ∧ W.cell? ⟨w.heap.size, 5, none⟩ = some (.bool ev.b) ∧ W.cell? ⟨w.heap.size, 6, none⟩ = some (.string ev.s) ∧ W.cell? ⟨w.heap.size, 7, none⟩ = some (.float .f64 ev.n)) ∧ (W.cell? ⟨b7, 0, none⟩ = some (.int .i64 v.k) ∧ W.cell? ⟨b7, 1, none⟩ = some (.int .i64 v.i) ∧ W.cell? ⟨b7, 2, none⟩ = some (.bool v.b) ∧ W.cell? ⟨b7, 3, none⟩ = some (.string v.s) ∧ W.cell? ⟨b7, 4, none⟩ = some (.float .f64 v.n)) ∧ (W.cell? ⟨bz, 0, none⟩ = some (.int .i64 8) ∧ W.cell? ⟨bz, 1, none⟩ = some (.slice (some ⟨gz, 0, none⟩) 2 2) ∧ W.cell? ⟨bz, 2, none⟩ = some (.string ⟨#[]⟩) ∧ W.cell? ⟨bz, 3, none⟩ = some (.int .i64 0) ∧ W.cell? ⟨bz, 4, none⟩ = some (.int .i64 0) ∧ W.cell? ⟨bz, 5, none⟩ = some (.bool false) ∧ W.cell? ⟨bz, 6, none⟩ = some (.string ⟨#[]⟩) ∧ W.cell? ⟨bz, 7, none⟩ = some (.float .f64 0)) from ⟨h, h.sb.ex, h.v7, h.z⟩)
        have HALL := Lib.hid hall
        clear hall
        go_cut [10] from 54 to 64 (fun s10 wx => ∃ gl, s10 = .slice (some ⟨gl, 0, none⟩) 2 2 ∧ LzA w FA fs.length FC VA vs.length VC eop A ks.length c enm ev b7 v bz gz wx ∧ ExE wx (some ⟨gl, 0, none⟩) 2 (opX 0 [opX 13 [.mk eop enm ev ks, conX v, nought], opX 11 [.mk eop enm ev ks, nought]]) ∧ ExE wx (some ⟨gz, 0, none⟩) 2 nought)
        case first =>
          refine wp_region_held_drew (S := (fun W => LzA w FA fs.length FC VA vs.length VC eop A ks.length c enm ev b7 v bz gz W ∧ (W.cell? ⟨w.heap.size, 0, none⟩ = some (.int .i64 eop) ∧ W.cell? ⟨w.heap.size, 1, none⟩ = some (.slice A ks.length c) ∧ W.cell? ⟨w.heap.size, 2, none⟩ = some (.string enm) ∧ W.cell? ⟨w.heap.size, 3, none⟩ = some (.int .i64 ev.k) ∧ W.cell? ⟨w.heap.size, 4, none⟩ = some (.int .i64 ev.i) ∧ W.cell? ⟨w.heap.size, 5, none⟩ = some (.bool ev.b) ∧ W.cell? ⟨w.heap.size, 6, none⟩ = some (.string ev.s) ∧ W.cell? ⟨w.heap.size, 7, none⟩ = some (.float .f64 ev.n)) ∧ (W.cell? ⟨b7, 0, none⟩ = some (.int .i64 v.k) ∧ W.cell? ⟨b7, 1, none⟩ = some (.int .i64 v.i) ∧ W.cell? ⟨b7, 2, none⟩ = some (.bool v.b) ∧ W.cell? ⟨b7, 3, none⟩ = some (.string v.s) ∧ W.cell? ⟨b7, 4, none⟩ = some (.float .f64 v.n)) ∧ (W.cell? ⟨bz, 0, none⟩ = some (.int .i64 8) ∧ W.cell? ⟨bz, 1, none⟩ = some (.slice (some ⟨gz, 0, none⟩) 2 2) ∧ W.cell? ⟨bz, 2, none⟩ = some (.string ⟨#[]⟩) ∧ W.cell? ⟨bz, 3, none⟩ = some (.int .i64 0) ∧ W.cell? ⟨bz, 4, none⟩ = some (.int .i64 0) ∧ W.cell? ⟨bz, 5, none⟩ = some (.bool false) ∧ W.cell? ⟨bz, 6, none⟩ = some (.string ⟨#[]⟩) ∧ W.cell? ⟨bz, 7, none⟩ = some (.float .f64 0)))) (by kernel_rfl) (HALL.out _ (LZ.out.below (Below.refl _ _).drew)) (fun hHeld => ?_)
          have FE := Lib.hid (FE.out.below (Below.refl _ wS).drew)
          have FZ := Lib.hid (FZ.out.below (Below.refl _ wS).drew)
          generalize wS.drew = wD at *
          refine wpAnyH_take (i := 0) (oi := ?oi1) (v := ?v1) ?hi1 (by kernel_rfl) (by kernel_rfl) (by kernel_rfl) ?hQ1 (Or.inl ⟨?hw1, ?hy1⟩) (by assumption) ?rest1
          case hi1 => (simp only [List.getElem?_toArray, List.getElem?_cons_succ, List.getElem?_cons_zero]; rfl)
          case hQ1 => exact fun _ _ _ h => h
          case hw1 => rfl
          case hy1 => (intro w hSw; (try dsimp only at hSw); go_simp; try with_reducible rfl)
          (try simp only [Act.put, List.setIfInBounds_toArray, List.set_cons_zero, List.set_cons_succ])
          refine wpAnyH_take (i := 1) (oi := ?oi2) (v := ?v2) ?hi2 (by kernel_rfl) (by kernel_rfl) (by kernel_rfl) ?hQ2 (Or.inl ⟨?hw2, ?hy2⟩) (by assumption) ?rest2
          case hi2 => (simp only [List.getElem?_toArray, List.getElem?_cons_succ, List.getElem?_cons_zero]; rfl)
          case hQ2 => exact fun _ _ _ h => h
          case hw2 => rfl
          case hy2 => (intro w hSw; (try dsimp only at hSw); go_simp; try with_reducible rfl)
          (try simp only [Act.put, List.setIfInBounds_toArray, List.set_cons_zero, List.set_cons_succ])
          refine wpAnyH_take (i := 3) (oi := ?oi3) (v := ?v3) ?hi3 (by kernel_rfl) (by kernel_rfl) (by kernel_rfl) ?hQ3 (Or.inl ⟨?hw3, ?hy3⟩) (by assumption) ?rest3
          case hi3 => (simp only [List.getElem?_toArray, List.getElem?_cons_succ, List.getElem?_cons_zero]; rfl)
          case hQ3 => exact fun _ _ _ h => h
          case hw3 => rfl
          case hy3 => (intro w hSw; (try dsimp only at hSw); go_simp; try with_reducible rfl)
          (try simp only [Act.put, List.setIfInBounds_toArray, List.set_cons_zero, List.set_cons_succ])
          refine wpAnyH_take (i := 6) (oi := ?oi4) (v := ?v4) ?hi4 (by kernel_rfl) (by kernel_rfl) (by kernel_rfl) ?hQ4 (Or.inl ⟨?hw4, ?hy4⟩) (by assumption) ?rest4
          case hi4 => (simp only [List.getElem?_toArray, List.getElem?_cons_succ, List.getElem?_cons_zero]; rfl)
          case hQ4 => exact fun _ _ _ h => h
          case hw4 => rfl
          case hy4 => (intro w hSw; (try dsimp only at hSw); go_simp; try with_reducible rfl)
          (try simp only [Act.put, List.setIfInBounds_toArray, List.set_cons_zero, List.set_cons_succ])
          refine wpAnyH_take (i := 7) (oi := ?oi5) (v := ?v5) ?hi5 (by kernel_rfl) (by kernel_rfl) (by kernel_rfl) ?hQ5 (Or.inl ⟨?hw5, ?hy5⟩) (by assumption) ?rest5
          case hi5 => (simp only [List.getElem?_toArray, List.getElem?_cons_succ, List.getElem?_cons_zero]; rfl)
          case hQ5 => exact fun _ _ _ h => h
          case hw5 => rfl
          case hy5 => (intro w hSw; (try dsimp only at hSw); go_simp; try with_reducible rfl)
          (try simp only [Act.put, List.setIfInBounds_toArray, List.set_cons_zero, List.set_cons_succ])
          refine wpAnyH_ready (rs := [2, 8]) (by kernel_rfl) (by simp) ?_
          refine AllReadyH.cons (o := ?o6) ?ho6 (fun K hK => ?st6) (AllReadyH.cons (o := ?o7) ?ho7 (fun K hK => ?st7) AllReadyH.nil)
          case ho6 => (simp only [List.getElem?_toArray, List.getElem?_cons_succ, List.getElem?_cons_zero]; rfl)
          case ho7 => (simp only [List.getElem?_toArray, List.getElem?_cons_succ, List.getElem?_cons_zero]; rfl)
          ·
           go_simp
           refine (cn.out v _).mono ?_; rintro _ w0 ⟨rfl, h0⟩; have y_FE := FE.out.below (h0); clear FE; have FE := Lib.hid y_FE; clear y_FE; have y_FZ := FZ.out.below (h0); clear FZ; have FZ := Lib.hid y_FZ; clear y_FZ
           refine hK.out _ _ ?_ (fun hHeld => ?_)
           · (try dsimp only); exact HALL.out _ (hHeld.1.below h0)
           clear hK K
           (try simp only [Act.put, List.setIfInBounds_toArray, List.set_cons_zero, List.set_cons_succ])
           refine wpAnyH_ready (rs := [4, 8]) (by kernel_rfl) (by simp) ?_
           refine AllReadyH.cons (o := ?o8) ?ho8 (fun K hK => ?st8) (AllReadyH.cons (o := ?o9) ?ho9 (fun K hK => ?st9) AllReadyH.nil)
           case ho8 => (simp only [List.getElem?_toArray, List.getElem?_cons_succ, List.getElem?_cons_zero]; rfl)
           case ho9 => (simp only [List.getElem?_toArray, List.getElem?_cons_succ, List.getElem?_cons_zero]; rfl)
           ·
            go_simp
            refine hK.out _ _ ?_ (fun hHeld => ?_)
            · (try dsimp only); exact HALL.out _ (hHeld.1.below (alloc1 _ _))
            clear hK K
            (try simp only [Act.put, List.setIfInBounds_toArray, List.set_cons_zero, List.set_cons_succ])
            have y_F4 := three_atL (.mk eop enm ev ks) (conX v) nought 13 hHeld.1 FE.out (ExE.leaf _ (conX v) rfl) FZ.out
            (try simp only [World.size_alloc] at y_F4)
            have F4 := Lib.hid y_F4
            clear y_F4
            have y_FE := FE.out.below (bel_atL hHeld.1)
            clear FE
            have FE := Lib.hid y_FE
            clear y_FE
            have y_FZ := FZ.out.below (bel_atL hHeld.1)
            clear FZ
            have FZ := Lib.hid y_FZ
            clear y_FZ
            refine wpAnyH_ready (rs := [5, 8]) (by kernel_rfl) (by simp) ?_
            refine AllReadyH.cons (o := ?o10) ?ho10 (fun K hK => ?st10) (AllReadyH.cons (o := ?o11) ?ho11 (fun K hK => ?st11) AllReadyH.nil)
            case ho10 => (simp only [List.getElem?_toArray, List.getElem?_cons_succ, List.getElem?_cons_zero]; rfl)
            case ho11 => (simp only [List.getElem?_toArray, List.getElem?_cons_succ, List.getElem?_cons_zero]; rfl)
            ·
             go_simp
             refine (on.out 13 _ _ _ _).mono ?_; rintro _ w2 ⟨rfl, h2⟩; have y_FE := FE.out.below (h2); clear FE; have FE := Lib.hid y_FE; clear y_FE; have y_FZ := FZ.out.below (h2); clear FZ; have FZ := Lib.hid y_FZ; clear y_FZ; have y_F4 := F4.out.below (h2); clear F4; have F4 := Lib.hid y_F4; clear y_F4
             refine hK.out _ _ ?_ (fun hHeld => ?_)
             · (try dsimp only); exact HALL.out _ (hHeld.1.below h2)
             clear hK K
             (try simp only [Act.put, List.setIfInBounds_toArray, List.set_cons_zero, List.set_cons_succ])
             refine wpAnyH_ready (rs := [8]) (by kernel_rfl) (by simp) ?_
             refine AllReadyH.cons (o := ?o12) ?ho12 (fun K hK => ?st12) AllReadyH.nil
             case ho12 => (simp only [List.getElem?_toArray, List.getElem?_cons_succ, List.getElem?_cons_zero]; rfl)
             go_simp
             refine hK.out _ _ ?_ (fun hHeld => ?_)
             · (try dsimp only); exact HALL.out _ (hHeld.1.below (alloc1 _ _))
             clear hK K
             (try simp only [Act.put, List.setIfInBounds_toArray, List.set_cons_zero, List.set_cons_succ])
             have y_F8 := two_atL (.mk eop enm ev ks) nought 11 hHeld.1 FE.out FZ.out
             (try simp only [World.size_alloc] at y_F8)
             have F8 := Lib.hid y_F8
             clear y_F8
             have y_FE := FE.out.below (bel_atL hHeld.1)
             clear FE
             have FE := Lib.hid y_FE
             clear y_FE
             have y_FZ := FZ.out.below (bel_atL hHeld.1)
             clear FZ
             have FZ := Lib.hid y_FZ
             clear y_FZ
             have y_F4 := F4.out.below (bel_atL hHeld.1)
             clear F4
             have F4 := Lib.hid y_F4
             clear y_F4
             refine wpAnyH_ready (rs := [9]) (by kernel_rfl) (by simp) ?_
             refine AllReadyH.cons (o := ?o13) ?ho13 (fun K hK => ?st13) AllReadyH.nil
             case ho13 => (simp only [List.getElem?_toArray, List.getElem?_cons_succ, List.getElem?_cons_zero]; rfl)
             go_simp
             refine (on.out 11 _ _ _ _).mono ?_; rintro _ w4 ⟨rfl, h4⟩; have y_FE := FE.out.below (h4); clear FE; have FE := Lib.hid y_FE; clear y_FE; have y_FZ := FZ.out.below (h4); clear FZ; have FZ := Lib.hid y_FZ; clear y_FZ; have y_F4 := F4.out.below (h4); clear F4; have F4 := Lib.hid y_F4; clear y_F4; have y_F8 := F8.out.below (h4); clear F8; have F8 := Lib.hid y_F8; clear y_F8
             refine hK.out _ _ ?_ (fun hHeld => ?_)
             · (try dsimp only); exact HALL.out _ (hHeld.1.below h4)
             clear hK K
             (try simp only [Act.put, List.setIfInBounds_toArray, List.set_cons_zero, List.set_cons_succ])
             refine wpAnyH_ready (rs := [10]) (by kernel_rfl) (by simp) ?_
             refine AllReadyH.cons (o := ?o14) ?ho14 (fun K hK => ?st14) AllReadyH.nil
             case ho14 => (simp only [List.getElem?_toArray, List.getElem?_cons_succ, List.getElem?_cons_zero]; rfl)
             go_simp
             refine hK.out _ _ ?_ (fun hHeld => ?_)
             · (try dsimp only); exact HALL.out _ (hHeld.1.below (alloc1 _ _))
             clear hK K
             (try simp only [Act.put, List.setIfInBounds_toArray, List.set_cons_zero, List.set_cons_succ])
             have y_F10 := two_atL (opX 13 [.mk eop enm ev ks, conX v, nought]) (opX 11 [.mk eop enm ev ks, nought]) 0 hHeld.1 F4.out F8.out
             (try simp only [World.size_alloc] at y_F10)
             have F10 := Lib.hid y_F10
             clear y_F10
             have y_FE := FE.out.below (bel_atL hHeld.1)
             clear FE
             have FE := Lib.hid y_FE
             clear y_FE
             have y_FZ := FZ.out.below (bel_atL hHeld.1)
             clear FZ
             have FZ := Lib.hid y_FZ
             clear y_FZ
             have y_F4 := F4.out.below (bel_atL hHeld.1)
             clear F4
             have F4 := Lib.hid y_F4
             clear y_F4
             have y_F8 := F8.out.below (bel_atL hHeld.1)
             clear F8
             have F8 := Lib.hid y_F8
             clear y_F8
             refine wpAnyH_take (i := 11) (oi := ?oi15) (v := ?v15) ?hi15 (by kernel_rfl) (by kernel_rfl) (by kernel_rfl) ?hQ15 (Or.inl ⟨?hw15, ?hy15⟩) (by assumption) ?rest15
             case hi15 => (simp only [List.getElem?_toArray, List.getElem?_cons_succ, List.getElem?_cons_zero]; rfl)
             case hQ15 => exact fun _ _ _ h => h
             case hw15 => rfl
             case hy15 => (intro w hSw; (try dsimp only at hSw); go_simp; try with_reducible rfl)
             (try simp only [Act.put, List.setIfInBounds_toArray, List.set_cons_zero, List.set_cons_succ])
             refine wpAnyH_done (by kernel_rfl) ?_ _
             go_wp2_with fail
             go_meet
             exact ⟨_, rfl, hHeld.1, F10.out, FZ.out⟩
            ·
             go_simp
             refine hK.out _ _ ?_ (fun hHeld => ?_)
             · (try dsimp only); exact HALL.out _ (hHeld.1.below (alloc1 _ _))
             clear hK K
             (try simp only [Act.put, List.setIfInBounds_toArray, List.set_cons_zero, List.set_cons_succ])
             have y_F8 := two_atL (.mk eop enm ev ks) nought 11 hHeld.1 FE.out FZ.out
             (try simp only [World.size_alloc] at y_F8)
             have F8 := Lib.hid y_F8
             clear y_F8
             have y_FE := FE.out.below (bel_atL hHeld.1)
             clear FE
             have FE := Lib.hid y_FE
             clear y_FE
             have y_FZ := FZ.out.below (bel_atL hHeld.1)
             clear FZ
             have FZ := Lib.hid y_FZ
             clear y_FZ
             have y_F4 := F4.out.below (bel_atL hHeld.1)
             clear F4
             have F4 := Lib.hid y_F4
             clear y_F4
             refine wpAnyH_ready (rs := [5]) (by kernel_rfl) (by simp) ?_
             refine AllReadyH.cons (o := ?o16) ?ho16 (fun K hK => ?st16) AllReadyH.nil
             case ho16 => (simp only [List.getElem?_toArray, List.getElem?_cons_succ, List.getElem?_cons_zero]; rfl)
             go_simp
             refine (on.out 13 _ _ _ _).mono ?_; rintro _ w3 ⟨rfl, h3⟩; have y_FE := FE.out.below (h3); clear FE; have FE := Lib.hid y_FE; clear y_FE; have y_FZ := FZ.out.below (h3); clear FZ; have FZ := Lib.hid y_FZ; clear y_FZ; have y_F4 := F4.out.below (h3); clear F4; have F4 := Lib.hid y_F4; clear y_F4; have y_F8 := F8.out.below (h3); clear F8; have F8 := Lib.hid y_F8; clear y_F8
             refine hK.out _ _ ?_ (fun hHeld => ?_)
             · (try dsimp only); exact HALL.out _ (hHeld.1.below h3)
             clear hK K
             (try simp only [Act.put, List.setIfInBounds_toArray, List.set_cons_zero, List.set_cons_succ])
             refine wpAnyH_ready (rs := [9]) (by kernel_rfl) (by simp) ?_
             refine AllReadyH.cons (o := ?o17) ?ho17 (fun K hK => ?st17) AllReadyH.nil
             case ho17 => (simp only [List.getElem?_toArray, List.getElem?_cons_succ, List.getElem?_cons_zero]; rfl)
             go_simp
             refine (on.out 11 _ _ _ _).mono ?_; rintro _ w4 ⟨rfl, h4⟩; have y_FE := FE.out.below (h4); clear FE; have FE := Lib.hid y_FE; clear y_FE; have y_FZ := FZ.out.below (h4); clear FZ; have FZ := Lib.hid y_FZ; clear y_FZ; have y_F4 := F4.out.below (h4); clear F4; have F4 := Lib.hid y_F4; clear y_F4; have y_F8 := F8.out.below (h4); clear F8; have F8 := Lib.hid y_F8; clear y_F8
             refine hK.out _ _ ?_ (fun hHeld => ?_)
             · (try dsimp only); exact HALL.out _ (hHeld.1.below h4)
             clear hK K
             (try simp only [Act.put, List.setIfInBounds_toArray, List.set_cons_zero, List.set_cons_succ])
             refine wpAnyH_ready (rs := [10]) (by kernel_rfl) (by simp) ?_
             refine AllReadyH.cons (o := ?o18) ?ho18 (fun K hK => ?st18) AllReadyH.nil
             case ho18 => (simp only [List.getElem?_toArray, List.getElem?_cons_succ, List.getElem?_cons_zero]; rfl)
             go_simp
             refine hK.out _ _ ?_ (fun hHeld => ?_)
             · (try dsimp only); exact HALL.out _ (hHeld.1.below (alloc1 _ _))
             clear hK K
             (try simp only [Act.put, List.setIfInBounds_toArray, List.set_cons_zero, List.set_cons_succ])
             have y_F10 := two_atL (opX 13 [.mk eop enm ev ks, conX v, nought]) (opX 11 [.mk eop enm ev ks, nought]) 0 hHeld.1 F4.out F8.out
             (try simp only [World.size_alloc] at y_F10)
             have F10 := Lib.hid y_F10
             clear y_F10
             have y_FE := FE.out.below (bel_atL hHeld.1)
             clear FE
             have FE := Lib.hid y_FE
             clear y_FE
             have y_FZ := FZ.out.below (bel_atL hHeld.1)
             clear FZ
             have FZ := Lib.hid y_FZ
             clear y_FZ
             have y_F4 := F4.out.below (bel_atL hHeld.1)
             clear F4
             have F4 := Lib.hid y_F4
             clear y_F4
             have y_F8 := F8.out.below (bel_atL hHeld.1)
             clear F8
             have F8 := Lib.hid y_F8
             clear y_F8
             refine wpAnyH_take (i := 11) (oi := ?oi19) (v := ?v19) ?hi19 (by kernel_rfl) (by kernel_rfl) (by kernel_rfl) ?hQ19 (Or.inl ⟨?hw19, ?hy19⟩) (by assumption) ?rest19
             case hi19 => (simp only [List.getElem?_toArray, List.getElem?_cons_succ, List.getElem?_cons_zero]; rfl)
             case hQ19 => exact fun _ _ _ h => h
             case hw19 => rfl
             case hy19 => (intro w hSw; (try dsimp only at hSw); go_simp; try with_reducible rfl)
             (try simp only [Act.put, List.setIfInBounds_toArray, List.set_cons_zero, List.set_cons_succ])
             refine wpAnyH_done (by kernel_rfl) ?_ _
             go_wp2_with fail
             go_meet
             exact ⟨_, rfl, hHeld.1, F10.out, FZ.out⟩
           ·
            go_simp
            refine hK.out _ _ ?_ (fun hHeld => ?_)
            · (try dsimp only); exact HALL.out _ (hHeld.1.below (alloc1 _ _))
            clear hK K
            (try simp only [Act.put, List.setIfInBounds_toArray, List.set_cons_zero, List.set_cons_succ])
            have y_F8 := two_atL (.mk eop enm ev ks) nought 11 hHeld.1 FE.out FZ.out
            (try simp only [World.size_alloc] at y_F8)
            have F8 := Lib.hid y_F8
            clear y_F8
            have y_FE := FE.out.below (bel_atL hHeld.1)
            clear FE
            have FE := Lib.hid y_FE
            clear y_FE
            have y_FZ := FZ.out.below (bel_atL hHeld.1)
            clear FZ
            have FZ := Lib.hid y_FZ
            clear y_FZ
            refine wpAnyH_ready (rs := [4]) (by kernel_rfl) (by simp) ?_
            refine AllReadyH.cons (o := ?o20) ?ho20 (fun K hK => ?st20) AllReadyH.nil
            case ho20 => (simp only [List.getElem?_toArray, List.getElem?_cons_succ, List.getElem?_cons_zero]; rfl)
            go_simp
            refine hK.out _ _ ?_ (fun hHeld => ?_)
            · (try dsimp only); exact HALL.out _ (hHeld.1.below (alloc1 _ _))
            clear hK K
            (try simp only [Act.put, List.setIfInBounds_toArray, List.set_cons_zero, List.set_cons_succ])
            have y_F4 := three_atL (.mk eop enm ev ks) (conX v) nought 13 hHeld.1 FE.out (ExE.leaf _ (conX v) rfl) FZ.out
            (try simp only [World.size_alloc] at y_F4)
            have F4 := Lib.hid y_F4
            clear y_F4
            have y_FE := FE.out.below (bel_atL hHeld.1)
            clear FE
            have FE := Lib.hid y_FE
            clear y_FE
            have y_FZ := FZ.out.below (bel_atL hHeld.1)
            clear FZ
            have FZ := Lib.hid y_FZ
            clear y_FZ
            have y_F8 := F8.out.below (bel_atL hHeld.1)
            clear F8
            have F8 := Lib.hid y_F8
            clear y_F8
            refine wpAnyH_ready (rs := [5]) (by kernel_rfl) (by simp) ?_
            refine AllReadyH.cons (o := ?o21) ?ho21 (fun K hK => ?st21) AllReadyH.nil
            case ho21 => (simp only [List.getElem?_toArray, List.getElem?_cons_succ, List.getElem?_cons_zero]; rfl)
            go_simp
            refine (on.out 13 _ _ _ _).mono ?_; rintro _ w3 ⟨rfl, h3⟩; have y_FE := FE.out.below (h3); clear FE; have FE := Lib.hid y_FE; clear y_FE; have y_FZ := FZ.out.below (h3); clear FZ; have FZ := Lib.hid y_FZ; clear y_FZ; have y_F8 := F8.out.below (h3); clear F8; have F8 := Lib.hid y_F8; clear y_F8; have y_F4 := F4.out.below (h3); clear F4; have F4 := Lib.hid y_F4; clear y_F4
            refine hK.out _ _ ?_ (fun hHeld => ?_)
            · (try dsimp only); exact HALL.out _ (hHeld.1.below h3)
            clear hK K
            (try simp only [Act.put, List.setIfInBounds_toArray, List.set_cons_zero, List.set_cons_succ])
            refine wpAnyH_ready (rs := [9]) (by kernel_rfl) (by simp) ?_
            refine AllReadyH.cons (o := ?o22) ?ho22 (fun K hK => ?st22) AllReadyH.nil
            case ho22 => (simp only [List.getElem?_toArray, List.getElem?_cons_succ, List.getElem?_cons_zero]; rfl)
            go_simp
            refine (on.out 11 _ _ _ _).mono ?_; rintro _ w4 ⟨rfl, h4⟩; have y_FE := FE.out.below (h4); clear FE; have FE := Lib.hid y_FE; clear y_FE; have y_FZ := FZ.out.below (h4); clear FZ; have FZ := Lib.hid y_FZ; clear y_FZ; have y_F8 := F8.out.below (h4); clear F8; have F8 := Lib.hid y_F8; clear y_F8; have y_F4 := F4.out.below (h4); clear F4; have F4 := Lib.hid y_F4; clear y_F4
            refine hK.out _ _ ?_ (fun hHeld => ?_)
            · (try dsimp only); exact HALL.out _ (hHeld.1.below h4)
            clear hK K
            (try simp only [Act.put, List.setIfInBounds_toArray, List.set_cons_zero, List.set_cons_succ])
            refine wpAnyH_ready (rs := [10]) (by kernel_rfl) (by simp) ?_
            refine AllReadyH.cons (o := ?o23) ?ho23 (fun K hK => ?st23) AllReadyH.nil
            case ho23 => (simp only [List.getElem?_toArray, List.getElem?_cons_succ, List.getElem?_cons_zero]; rfl)
            go_simp
            refine hK.out _ _ ?_ (fun hHeld => ?_)
            · (try dsimp only); exact HALL.out _ (hHeld.1.below (alloc1 _ _))
            clear hK K
            (try simp only [Act.put, List.setIfInBounds_toArray, List.set_cons_zero, List.set_cons_succ])
            have y_F10 := two_atL (opX 13 [.mk eop enm ev ks, conX v, nought]) (opX 11 [.mk eop enm ev ks, nought]) 0 hHeld.1 F4.out F8.out
            (try simp only [World.size_alloc] at y_F10)
            have F10 := Lib.hid y_F10
            clear y_F10
            have y_FE := FE.out.below (bel_atL hHeld.1)
            clear FE
            have FE := Lib.hid y_FE
            clear y_FE
            have y_FZ := FZ.out.below (bel_atL hHeld.1)
            clear FZ
            have FZ := Lib.hid y_FZ
            clear y_FZ
            have y_F8 := F8.out.below (bel_atL hHeld.1)
            clear F8
            have F8 := Lib.hid y_F8
            clear y_F8
            have y_F4 := F4.out.below (bel_atL hHeld.1)
            clear F4
            have F4 := Lib.hid y_F4
            clear y_F4
            refine wpAnyH_take (i := 11) (oi := ?oi24) (v := ?v24) ?hi24 (by kernel_rfl) (by kernel_rfl) (by kernel_rfl) ?hQ24 (Or.inl ⟨?hw24, ?hy24⟩) (by assumption) ?rest24
            case hi24 => (simp only [List.getElem?_toArray, List.getElem?_cons_succ, List.getElem?_cons_zero]; rfl)
            case hQ24 => exact fun _ _ _ h => h
            case hw24 => rfl
            case hy24 => (intro w hSw; (try dsimp only at hSw); go_simp; try with_reducible rfl)
            (try simp only [Act.put, List.setIfInBounds_toArray, List.set_cons_zero, List.set_cons_succ])
            refine wpAnyH_done (by kernel_rfl) ?_ _
            go_wp2_with fail
            go_meet
            exact ⟨_, rfl, hHeld.1, F10.out, FZ.out⟩
          ·
           go_simp
           refine hK.out _ _ ?_ (fun hHeld => ?_)
           · (try dsimp only); exact HALL.out _ (hHeld.1.below (alloc1 _ _))
           clear hK K
           (try simp only [Act.put, List.setIfInBounds_toArray, List.set_cons_zero, List.set_cons_succ])
           have y_F8 := two_atL (.mk eop enm ev ks) nought 11 hHeld.1 FE.out FZ.out
           (try simp only [World.size_alloc] at y_F8)
           have F8 := Lib.hid y_F8
           clear y_F8
           have y_FE := FE.out.below (bel_atL hHeld.1)
           clear FE
           have FE := Lib.hid y_FE
           clear y_FE
           have y_FZ := FZ.out.below (bel_atL hHeld.1)
           clear FZ
           have FZ := Lib.hid y_FZ
           clear y_FZ
           refine wpAnyH_ready (rs := [2]) (by kernel_rfl) (by simp) ?_
           refine AllReadyH.cons (o := ?o25) ?ho25 (fun K hK => ?st25) AllReadyH.nil
           case ho25 => (simp only [List.getElem?_toArray, List.getElem?_cons_succ, List.getElem?_cons_zero]; rfl)
           go_simp
           refine (cn.out v _).mono ?_; rintro _ w1 ⟨rfl, h1⟩; have y_FE := FE.out.below (h1); clear FE; have FE := Lib.hid y_FE; clear y_FE; have y_FZ := FZ.out.below (h1); clear FZ; have FZ := Lib.hid y_FZ; clear y_FZ; have y_F8 := F8.out.below (h1); clear F8; have F8 := Lib.hid y_F8; clear y_F8
           refine hK.out _ _ ?_ (fun hHeld => ?_)
           · (try dsimp only); exact HALL.out _ (hHeld.1.below h1)
           clear hK K
           (try simp only [Act.put, List.setIfInBounds_toArray, List.set_cons_zero, List.set_cons_succ])
           refine wpAnyH_ready (rs := [4]) (by kernel_rfl) (by simp) ?_
           refine AllReadyH.cons (o := ?o26) ?ho26 (fun K hK => ?st26) AllReadyH.nil
           case ho26 => (simp only [List.getElem?_toArray, List.getElem?_cons_succ, List.getElem?_cons_zero]; rfl)
           go_simp
           refine hK.out _ _ ?_ (fun hHeld => ?_)
           · (try dsimp only); exact HALL.out _ (hHeld.1.below (alloc1 _ _))
           clear hK K
           (try simp only [Act.put, List.setIfInBounds_toArray, List.set_cons_zero, List.set_cons_succ])
           have y_F4 := three_atL (.mk eop enm ev ks) (conX v) nought 13 hHeld.1 FE.out (ExE.leaf _ (conX v) rfl) FZ.out
           (try simp only [World.size_alloc] at y_F4)
           have F4 := Lib.hid y_F4
           clear y_F4
           have y_FE := FE.out.below (bel_atL hHeld.1)
           clear FE
           have FE := Lib.hid y_FE
           clear y_FE
           have y_FZ := FZ.out.below (bel_atL hHeld.1)
           clear FZ
           have FZ := Lib.hid y_FZ
           clear y_FZ
           have y_F8 := F8.out.below (bel_atL hHeld.1)
           clear F8
           have F8 := Lib.hid y_F8
           clear y_F8
           refine wpAnyH_ready (rs := [5]) (by kernel_rfl) (by simp) ?_
           refine AllReadyH.cons (o := ?o27) ?ho27 (fun K hK => ?st27) AllReadyH.nil
           case ho27 => (simp only [List.getElem?_toArray, List.getElem?_cons_succ, List.getElem?_cons_zero]; rfl)
           go_simp
           refine (on.out 13 _ _ _ _).mono ?_; rintro _ w3 ⟨rfl, h3⟩; have y_FE := FE.out.below (h3); clear FE; have FE := Lib.hid y_FE; clear y_FE; have y_FZ := FZ.out.below (h3); clear FZ; have FZ := Lib.hid y_FZ; clear y_FZ; have y_F8 := F8.out.below (h3); clear F8; have F8 := Lib.hid y_F8; clear y_F8; have y_F4 := F4.out.below (h3); clear F4; have F4 := Lib.hid y_F4; clear y_F4
           refine hK.out _ _ ?_ (fun hHeld => ?_)
           · (try dsimp only); exact HALL.out _ (hHeld.1.below h3)
           clear hK K
           (try simp only [Act.put, List.setIfInBounds_toArray, List.set_cons_zero, List.set_cons_succ])
           refine wpAnyH_ready (rs := [9]) (by kernel_rfl) (by simp) ?_
           refine AllReadyH.cons (o := ?o28) ?ho28 (fun K hK => ?st28) AllReadyH.nil
           case ho28 => (simp only [List.getElem?_toArray, List.getElem?_cons_succ, List.getElem?_cons_zero]; rfl)
           go_simp
           refine (on.out 11 _ _ _ _).mono ?_; rintro _ w4 ⟨rfl, h4⟩; have y_FE := FE.out.below (h4); clear FE; have FE := Lib.hid y_FE; clear y_FE; have y_FZ := FZ.out.below (h4); clear FZ; have FZ := Lib.hid y_FZ; clear y_FZ; have y_F8 := F8.out.below (h4); clear F8; have F8 := Lib.hid y_F8; clear y_F8; have y_F4 := F4.out.below (h4); clear F4; have F4 := Lib.hid y_F4; clear y_F4
           refine hK.out _ _ ?_ (fun hHeld => ?_)
           · (try dsimp only); exact HALL.out _ (hHeld.1.below h4)
           clear hK K
           (try simp only [Act.put, List.setIfInBounds_toArray, List.set_cons_zero, List.set_cons_succ])
           refine wpAnyH_ready (rs := [10]) (by kernel_rfl) (by simp) ?_
           refine AllReadyH.cons (o := ?o29) ?ho29 (fun K hK => ?st29) AllReadyH.nil
           case ho29 => (simp only [List.getElem?_toArray, List.getElem?_cons_succ, List.getElem?_cons_zero]; rfl)
           go_simp
           refine hK.out _ _ ?_ (fun hHeld => ?_)
           · (try dsimp only); exact HALL.out _ (hHeld.1.below (alloc1 _ _))
           clear hK K
           (try simp only [Act.put, List.setIfInBounds_toArray, List.set_cons_zero, List.set_cons_succ])
           have y_F10 := two_atL (opX 13 [.mk eop enm ev ks, conX v, nought]) (opX 11 [.mk eop enm ev ks, nought]) 0 hHeld.1 F4.out F8.out
           (try simp only [World.size_alloc] at y_F10)
           have F10 := Lib.hid y_F10
           clear y_F10
           have y_FE := FE.out.below (bel_atL hHeld.1)
           clear FE
           have FE := Lib.hid y_FE
           clear y_FE
           have y_FZ := FZ.out.below (bel_atL hHeld.1)
           clear FZ
           have FZ := Lib.hid y_FZ
           clear y_FZ
           have y_F8 := F8.out.below (bel_atL hHeld.1)
           clear F8
           have F8 := Lib.hid y_F8
           clear y_F8
           have y_F4 := F4.out.below (bel_atL hHeld.1)
           clear F4
           have F4 := Lib.hid y_F4
           clear y_F4
           refine wpAnyH_take (i := 11) (oi := ?oi30) (v := ?v30) ?hi30 (by kernel_rfl) (by kernel_rfl) (by kernel_rfl) ?hQ30 (Or.inl ⟨?hw30, ?hy30⟩) (by assumption) ?rest30
           case hi30 => (simp only [List.getElem?_toArray, List.getElem?_cons_succ, List.getElem?_cons_zero]; rfl)
           case hQ30 => exact fun _ _ _ h => h
           case hw30 => rfl
           case hy30 => (intro w hSw; (try dsimp only at hSw); go_simp; try with_reducible rfl)
           (try simp only [Act.put, List.setIfInBounds_toArray, List.set_cons_zero, List.set_cons_succ])
           refine wpAnyH_done (by kernel_rfl) ?_ _
           go_wp2_with fail
           go_meet
           exact ⟨_, rfl, hHeld.1, F10.out, FZ.out⟩
        case rest =>
          obtain ⟨gl, rfl, hlz, htl, hfzz⟩ := hcut
          have FZZ := Lib.hid hfzz
          clear hfzz
          have FE := Lib.hid (HX.out.below hlz.sb.bel)
          have LZ := Lib.hid hlz
          clear hlz
          have hx2 := LZ.out.v7.2.2.1
          rcases hb : v.b with _ | _
          · rw [hb] at hx2
            have HBB := Lib.hid hb
            clear hb htl
            go_upto_region 10 with fail
            clear hx2
            have FZ : Hid (ExE wc (some ⟨gz, 0, none⟩) 2 nought) := Lib.hid (FZZ.out)
            go_cut [10] from 68 to 78 (fun s10 wx => ∃ gl, s10 = .slice (some ⟨gl, 0, none⟩) 2 2 ∧ LzA w FA fs.length FC VA vs.length VC eop A ks.length c enm ev b7 v bz gz wx ∧ ExE wx (some ⟨gl, 0, none⟩) 2 (opX 0 [opX 13 [.mk eop enm ev ks, nought, conX v], opX 10 [.mk eop enm ev ks, nought]]) ∧ ExE wx (some ⟨gz, 0, none⟩) 2 nought)
            case first =>
              refine wp_region_held_drew (S := (fun W => LzA w FA fs.length FC VA vs.length VC eop A ks.length c enm ev b7 v bz gz W ∧ (W.cell? ⟨w.heap.size, 0, none⟩ = some (.int .i64 eop) ∧ W.cell? ⟨w.heap.size, 1, none⟩ = some (.slice A ks.length c) ∧ W.cell? ⟨w.heap.size, 2, none⟩ = some (.string enm) ∧ W.cell? ⟨w.heap.size, 3, none⟩ = some (.int .i64 ev.k) ∧ W.cell? ⟨w.heap.size, 4, none⟩ = some (.int .i64 ev.i) ∧ W.cell? ⟨w.heap.size, 5, none⟩ = some (.bool ev.b) ∧ W.cell? ⟨w.heap.size, 6, none⟩ = some (.string ev.s) ∧ W.cell? ⟨w.heap.size, 7, none⟩ = some (.float .f64 ev.n)) ∧ (W.cell? ⟨b7, 0, none⟩ = some (.int .i64 v.k) ∧ W.cell? ⟨b7, 1, none⟩ = some (.int .i64 v.i) ∧ W.cell? ⟨b7, 2, none⟩ = some (.bool v.b) ∧ W.cell? ⟨b7, 3, none⟩ = some (.string v.s) ∧ W.cell? ⟨b7, 4, none⟩ = some (.float .f64 v.n)) ∧ (W.cell? ⟨bz, 0, none⟩ = some (.int .i64 8) ∧ W.cell? ⟨bz, 1, none⟩ = some (.slice (some ⟨gz, 0, none⟩) 2 2) ∧ W.cell? ⟨bz, 2, none⟩ = some (.string ⟨#[]⟩) ∧ W.cell? ⟨bz, 3, none⟩ = some (.int .i64 0) ∧ W.cell? ⟨bz, 4, none⟩ = some (.int .i64 0) ∧ W.cell? ⟨bz, 5, none⟩ = some (.bool false) ∧ W.cell? ⟨bz, 6, none⟩ = some (.string ⟨#[]⟩) ∧ W.cell? ⟨bz, 7, none⟩ = some (.float .f64 0)))) (by kernel_rfl) (HALL.out _ (LZ.out.below (Below.refl _ _).drew)) (fun hHeld => ?_)
              have FE := Lib.hid (FE.out.below (Below.refl _ wc).drew)
              have FZ := Lib.hid (FZ.out.below (Below.refl _ wc).drew)
              generalize wc.drew = wD at *
              refine wpAnyH_take (i := 0) (oi := ?oi53) (v := ?v53) ?hi53 (by kernel_rfl) (by kernel_rfl) (by kernel_rfl) ?hQ53 (Or.inl ⟨?hw53, ?hy53⟩) (by assumption) ?rest53
              case hi53 => (simp only [List.getElem?_toArray, List.getElem?_cons_succ, List.getElem?_cons_zero]; rfl)
              case hQ53 => exact fun _ _ _ h => h
              case hw53 => rfl
              case hy53 => (intro w hSw; (try dsimp only at hSw); go_simp; try with_reducible rfl)
              (try simp only [Act.put, List.setIfInBounds_toArray, List.set_cons_zero, List.set_cons_succ])
              refine wpAnyH_take (i := 1) (oi := ?oi54) (v := ?v54) ?hi54 (by kernel_rfl) (by kernel_rfl) (by kernel_rfl) ?hQ54 (Or.inl ⟨?hw54, ?hy54⟩) (by assumption) ?rest54
              case hi54 => (simp only [List.getElem?_toArray, List.getElem?_cons_succ, List.getElem?_cons_zero]; rfl)
              case hQ54 => exact fun _ _ _ h => h
              case hw54 => rfl
              case hy54 => (intro w hSw; (try dsimp only at hSw); go_simp; try with_reducible rfl)
              (try simp only [Act.put, List.setIfInBounds_toArray, List.set_cons_zero, List.set_cons_succ])
              refine wpAnyH_take (i := 2) (oi := ?oi55) (v := ?v55) ?hi55 (by kernel_rfl) (by kernel_rfl) (by kernel_rfl) ?hQ55 (Or.inl ⟨?hw55, ?hy55⟩) (by assumption) ?rest55
              case hi55 => (simp only [List.getElem?_toArray, List.getElem?_cons_succ, List.getElem?_cons_zero]; rfl)
              case hQ55 => exact fun _ _ _ h => h
              case hw55 => rfl
              case hy55 => (intro w hSw; (try dsimp only at hSw); go_simp; try with_reducible rfl)
              (try simp only [Act.put, List.setIfInBounds_toArray, List.set_cons_zero, List.set_cons_succ])
              refine wpAnyH_take (i := 6) (oi := ?oi56) (v := ?v56) ?hi56 (by kernel_rfl) (by kernel_rfl) (by kernel_rfl) ?hQ56 (Or.inl ⟨?hw56, ?hy56⟩) (by assumption) ?rest56
              case hi56 => (simp only [List.getElem?_toArray, List.getElem?_cons_succ, List.getElem?_cons_zero]; rfl)
              case hQ56 => exact fun _ _ _ h => h
              case hw56 => rfl
              case hy56 => (intro w hSw; (try dsimp only at hSw); go_simp; try with_reducible rfl)
              (try simp only [Act.put, List.setIfInBounds_toArray, List.set_cons_zero, List.set_cons_succ])
              refine wpAnyH_take (i := 7) (oi := ?oi57) (v := ?v57) ?hi57 (by kernel_rfl) (by kernel_rfl) (by kernel_rfl) ?hQ57 (Or.inl ⟨?hw57, ?hy57⟩) (by assumption) ?rest57
              case hi57 => (simp only [List.getElem?_toArray, List.getElem?_cons_succ, List.getElem?_cons_zero]; rfl)
              case hQ57 => exact fun _ _ _ h => h
              case hw57 => rfl
              case hy57 => (intro w hSw; (try dsimp only at hSw); go_simp; try with_reducible rfl)
              (try simp only [Act.put, List.setIfInBounds_toArray, List.set_cons_zero, List.set_cons_succ])
              refine wpAnyH_ready (rs := [3, 8]) (by kernel_rfl) (by simp) ?_
              refine AllReadyH.cons (o := ?o58) ?ho58 (fun K hK => ?st58) (AllReadyH.cons (o := ?o59) ?ho59 (fun K hK => ?st59) AllReadyH.nil)
              case ho58 => (simp only [List.getElem?_toArray, List.getElem?_cons_succ, List.getElem?_cons_zero]; rfl)
              case ho59 => (simp only [List.getElem?_toArray, List.getElem?_cons_succ, List.getElem?_cons_zero]; rfl)
              ·
               go_simp
               refine (cn.out v _).mono ?_; rintro _ w0 ⟨rfl, h0⟩; have y_FE := FE.out.below (h0); clear FE; have FE := Lib.hid y_FE; clear y_FE; have y_FZ := FZ.out.below (h0); clear FZ; have FZ := Lib.hid y_FZ; clear y_FZ
               refine hK.out _ _ ?_ (fun hHeld => ?_)
               · (try dsimp only); exact HALL.out _ (hHeld.1.below h0)
               clear hK K
               (try simp only [Act.put, List.setIfInBounds_toArray, List.set_cons_zero, List.set_cons_succ])
               refine wpAnyH_ready (rs := [4, 8]) (by kernel_rfl) (by simp) ?_
               refine AllReadyH.cons (o := ?o60) ?ho60 (fun K hK => ?st60) (AllReadyH.cons (o := ?o61) ?ho61 (fun K hK => ?st61) AllReadyH.nil)
               case ho60 => (simp only [List.getElem?_toArray, List.getElem?_cons_succ, List.getElem?_cons_zero]; rfl)
               case ho61 => (simp only [List.getElem?_toArray, List.getElem?_cons_succ, List.getElem?_cons_zero]; rfl)
               ·
                go_simp
                refine hK.out _ _ ?_ (fun hHeld => ?_)
                · (try dsimp only); exact HALL.out _ (hHeld.1.below (alloc1 _ _))
                clear hK K
                (try simp only [Act.put, List.setIfInBounds_toArray, List.set_cons_zero, List.set_cons_succ])
                have y_F4 := three_atL (.mk eop enm ev ks) nought (conX v) 13 hHeld.1 FE.out FZ.out (ExE.leaf _ (conX v) rfl)
                (try simp only [World.size_alloc] at y_F4)
                have F4 := Lib.hid y_F4
                clear y_F4
                have y_FE := FE.out.below (bel_atL hHeld.1)
                clear FE
                have FE := Lib.hid y_FE
                clear y_FE
                have y_FZ := FZ.out.below (bel_atL hHeld.1)
                clear FZ
                have FZ := Lib.hid y_FZ
                clear y_FZ
                refine wpAnyH_ready (rs := [5, 8]) (by kernel_rfl) (by simp) ?_
                refine AllReadyH.cons (o := ?o62) ?ho62 (fun K hK => ?st62) (AllReadyH.cons (o := ?o63) ?ho63 (fun K hK => ?st63) AllReadyH.nil)
                case ho62 => (simp only [List.getElem?_toArray, List.getElem?_cons_succ, List.getElem?_cons_zero]; rfl)
                case ho63 => (simp only [List.getElem?_toArray, List.getElem?_cons_succ, List.getElem?_cons_zero]; rfl)
                ·
                 go_simp
                 refine (on.out 13 _ _ _ _).mono ?_; rintro _ w2 ⟨rfl, h2⟩; have y_FE := FE.out.below (h2); clear FE; have FE := Lib.hid y_FE; clear y_FE; have y_FZ := FZ.out.below (h2); clear FZ; have FZ := Lib.hid y_FZ; clear y_FZ; have y_F4 := F4.out.below (h2); clear F4; have F4 := Lib.hid y_F4; clear y_F4
                 refine hK.out _ _ ?_ (fun hHeld => ?_)
                 · (try dsimp only); exact HALL.out _ (hHeld.1.below h2)
                 clear hK K
                 (try simp only [Act.put, List.setIfInBounds_toArray, List.set_cons_zero, List.set_cons_succ])
                 refine wpAnyH_ready (rs := [8]) (by kernel_rfl) (by simp) ?_
                 refine AllReadyH.cons (o := ?o64) ?ho64 (fun K hK => ?st64) AllReadyH.nil
                 case ho64 => (simp only [List.getElem?_toArray, List.getElem?_cons_succ, List.getElem?_cons_zero]; rfl)
                 go_simp
                 refine hK.out _ _ ?_ (fun hHeld => ?_)
                 · (try dsimp only); exact HALL.out _ (hHeld.1.below (alloc1 _ _))
                 clear hK K
                 (try simp only [Act.put, List.setIfInBounds_toArray, List.set_cons_zero, List.set_cons_succ])
                 have y_F8 := two_atL (.mk eop enm ev ks) nought 10 hHeld.1 FE.out FZ.out
                 (try simp only [World.size_alloc] at y_F8)
                 have F8 := Lib.hid y_F8
                 clear y_F8
                 have y_FE := FE.out.below (bel_atL hHeld.1)
                 clear FE
                 have FE := Lib.hid y_FE
                 clear y_FE
                 have y_FZ := FZ.out.below (bel_atL hHeld.1)
                 clear FZ
                 have FZ := Lib.hid y_FZ
                 clear y_FZ
                 have y_F4 := F4.out.below (bel_atL hHeld.1)
                 clear F4
                 have F4 := Lib.hid y_F4
                 clear y_F4
                 refine wpAnyH_ready (rs := [9]) (by kernel_rfl) (by simp) ?_
                 refine AllReadyH.cons (o := ?o65) ?ho65 (fun K hK => ?st65) AllReadyH.nil
                 case ho65 => (simp only [List.getElem?_toArray, List.getElem?_cons_succ, List.getElem?_cons_zero]; rfl)
                 go_simp
                 refine (on.out 10 _ _ _ _).mono ?_; rintro _ w4 ⟨rfl, h4⟩; have y_FE := FE.out.below (h4); clear FE; have FE := Lib.hid y_FE; clear y_FE; have y_FZ := FZ.out.below (h4); clear FZ; have FZ := Lib.hid y_FZ; clear y_FZ; have y_F4 := F4.out.below (h4); clear F4; have F4 := Lib.hid y_F4; clear y_F4; have y_F8 := F8.out.below (h4); clear F8; have F8 := Lib.hid y_F8; clear y_F8
                 refine hK.out _ _ ?_ (fun hHeld => ?_)
                 · (try dsimp only); exact HALL.out _ (hHeld.1.below h4)
                 clear hK K
                 (try simp only [Act.put, List.setIfInBounds_toArray, List.set_cons_zero, List.set_cons_succ])
                 refine wpAnyH_ready (rs := [10]) (by kernel_rfl) (by simp) ?_
                 refine AllReadyH.cons (o := ?o66) ?ho66 (fun K hK => ?st66) AllReadyH.nil
                 case ho66 => (simp only [List.getElem?_toArray, List.getElem?_cons_succ, List.getElem?_cons_zero]; rfl)
                 go_simp
                 refine hK.out _ _ ?_ (fun hHeld => ?_)
                 · (try dsimp only); exact HALL.out _ (hHeld.1.below (alloc1 _ _))
                 clear hK K
                 (try simp only [Act.put, List.setIfInBounds_toArray, List.set_cons_zero, List.set_cons_succ])
                 have y_F10 := two_atL (opX 13 [.mk eop enm ev ks, nought, conX v]) (opX 10 [.mk eop enm ev ks, nought]) 0 hHeld.1 F4.out F8.out
                 (try simp only [World.size_alloc] at y_F10)
                 have F10 := Lib.hid y_F10
                 clear y_F10
                 have y_FE := FE.out.below (bel_atL hHeld.1)
                 clear FE
                 have FE := Lib.hid y_FE
                 clear y_FE
                 have y_FZ := FZ.out.below (bel_atL hHeld.1)
                 clear FZ
                 have FZ := Lib.hid y_FZ
                 clear y_FZ
                 have y_F4 := F4.out.below (bel_atL hHeld.1)
                 clear F4
                 have F4 := Lib.hid y_F4
                 clear y_F4
                 have y_F8 := F8.out.below (bel_atL hHeld.1)
                 clear F8
                 have F8 := Lib.hid y_F8
                 clear y_F8
                 refine wpAnyH_take (i := 11) (oi := ?oi67) (v := ?v67) ?hi67 (by kernel_rfl) (by kernel_rfl) (by kernel_rfl) ?hQ67 (Or.inl ⟨?hw67, ?hy67⟩) (by assumption) ?rest67
                 case hi67 => (simp only [List.getElem?_toArray, List.getElem?_cons_succ, List.getElem?_cons_zero]; rfl)
                 case hQ67 => exact fun _ _ _ h => h
                 case hw67 => rfl
                 case hy67 => (intro w hSw; (try dsimp only at hSw); go_simp; try with_reducible rfl)
                 (try simp only [Act.put, List.setIfInBounds_toArray, List.set_cons_zero, List.set_cons_succ])
                 refine wpAnyH_done (by kernel_rfl) ?_ _
                 go_wp2_with fail
                 go_meet
                 exact ⟨_, rfl, hHeld.1, F10.out, FZ.out⟩
                ·
                 go_simp
                 refine hK.out _ _ ?_ (fun hHeld => ?_)
                 · (try dsimp only); exact HALL.out _ (hHeld.1.below (alloc1 _ _))
                 clear hK K
                 (try simp only [Act.put, List.setIfInBounds_toArray, List.set_cons_zero, List.set_cons_succ])
                 have y_F8 := two_atL (.mk eop enm ev ks) nought 10 hHeld.1 FE.out FZ.out
                 (try simp only [World.size_alloc] at y_F8)
                 have F8 := Lib.hid y_F8
                 clear y_F8
                 have y_FE := FE.out.below (bel_atL hHeld.1)
                 clear FE
                 have FE := Lib.hid y_FE
                 clear y_FE
                 have y_FZ := FZ.out.below (bel_atL hHeld.1)
                 clear FZ
                 have FZ := Lib.hid y_FZ
                 clear y_FZ
                 have y_F4 := F4.out.below (bel_atL hHeld.1)
                 clear F4
                 have F4 := Lib.hid y_F4
                 clear y_F4
                 refine wpAnyH_ready (rs := [5]) (by kernel_rfl) (by simp) ?_
                 refine AllReadyH.cons (o := ?o68) ?ho68 (fun K hK => ?st68) AllReadyH.nil
                 case ho68 => (simp only [List.getElem?_toArray, List.getElem?_cons_succ, List.getElem?_cons_zero]; rfl)
                 go_simp
                 refine (on.out 13 _ _ _ _).mono ?_; rintro _ w3 ⟨rfl, h3⟩; have y_FE := FE.out.below (h3); clear FE; have FE := Lib.hid y_FE; clear y_FE; have y_FZ := FZ.out.below (h3); clear FZ; have FZ := Lib.hid y_FZ; clear y_FZ; have y_F4 := F4.out.below (h3); clear F4; have F4 := Lib.hid y_F4; clear y_F4; have y_F8 := F8.out.below (h3); clear F8; have F8 := Lib.hid y_F8; clear y_F8
                 refine hK.out _ _ ?_ (fun hHeld => ?_)
                 · (try dsimp only); exact HALL.out _ (hHeld.1.below h3)
                 clear hK K
                 (try simp only [Act.put, List.setIfInBounds_toArray, List.set_cons_zero, List.set_cons_succ])
                 refine wpAnyH_ready (rs := [9]) (by kernel_rfl) (by simp) ?_
                 refine AllReadyH.cons (o := ?o69) ?ho69 (fun K hK => ?st69) AllReadyH.nil
                 case ho69 => (simp only [List.getElem?_toArray, List.getElem?_cons_succ, List.getElem?_cons_zero]; rfl)
                 go_simp
                 refine (on.out 10 _ _ _ _).mono ?_; rintro _ w4 ⟨rfl, h4⟩; have y_FE := FE.out.below (h4); clear FE; have FE := Lib.hid y_FE; clear y_FE; have y_FZ := FZ.out.below (h4); clear FZ; have FZ := Lib.hid y_FZ; clear y_FZ; have y_F4 := F4.out.below (h4); clear F4; have F4 := Lib.hid y_F4; clear y_F4; have y_F8 := F8.out.below (h4); clear F8; have F8 := Lib.hid y_F8; clear y_F8
                 refine hK.out _ _ ?_ (fun hHeld => ?_)
                 · (try dsimp only); exact HALL.out _ (hHeld.1.below h4)
                 clear hK K
                 (try simp only [Act.put, List.setIfInBounds_toArray, List.set_cons_zero, List.set_cons_succ])
                 refine wpAnyH_ready (rs := [10]) (by kernel_rfl) (by simp) ?_
                 refine AllReadyH.cons (o := ?o70) ?ho70 (fun K hK => ?st70) AllReadyH.nil
                 case ho70 => (simp only [List.getElem?_toArray, List.getElem?_cons_succ, List.getElem?_cons_zero]; rfl)
                 go_simp
                 refine hK.out _ _ ?_ (fun hHeld => ?_)
                 · (try dsimp only); exact HALL.out _ (hHeld.1.below (alloc1 _ _))
                 clear hK K
                 (try simp only [Act.put, List.setIfInBounds_toArray, List.set_cons_zero, List.set_cons_succ])
                 have y_F10 := two_atL (opX 13 [.mk eop enm ev ks, nought, conX v]) (opX 10 [.mk eop enm ev ks, nought]) 0 hHeld.1 F4.out F8.out
                 (try simp only [World.size_alloc] at y_F10)
                 have F10 := Lib.hid y_F10
                 clear y_F10
                 have y_FE := FE.out.below (bel_atL hHeld.1)
                 clear FE
                 have FE := Lib.hid y_FE
                 clear y_FE
                 have y_FZ := FZ.out.below (bel_atL hHeld.1)
                 clear FZ
                 have FZ := Lib.hid y_FZ
                 clear y_FZ
                 have y_F4 := F4.out.below (bel_atL hHeld.1)
                 clear F4
                 have F4 := Lib.hid y_F4
                 clear y_F4
                 have y_F8 := F8.out.below (bel_atL hHeld.1)
                 clear F8
                 have F8 := Lib.hid y_F8
                 clear y_F8
                 refine wpAnyH_take (i := 11) (oi := ?oi71) (v := ?v71) ?hi71 (by kernel_rfl) (by kernel_rfl) (by kernel_rfl) ?hQ71 (Or.inl ⟨?hw71, ?hy71⟩) (by assumption) ?rest71
                 case hi71 => (simp only [List.getElem?_toArray, List.getElem?_cons_succ, List.getElem?_cons_zero]; rfl)
                 case hQ71 => exact fun _ _ _ h => h
                 case hw71 => rfl
                 case hy71 => (intro w hSw; (try dsimp only at hSw); go_simp; try with_reducible rfl)
                 (try simp only [Act.put, List.setIfInBounds_toArray, List.set_cons_zero, List.set_cons_succ])
                 refine wpAnyH_done (by kernel_rfl) ?_ _
                 go_wp2_with fail
                 go_meet
                 exact ⟨_, rfl, hHeld.1, F10.out, FZ.out⟩
               ·
                go_simp
                refine hK.out _ _ ?_ (fun hHeld => ?_)
                · (try dsimp only); exact HALL.out _ (hHeld.1.below (alloc1 _ _))
                clear hK K
                (try simp only [Act.put, List.setIfInBounds_toArray, List.set_cons_zero, List.set_cons_succ])
                have y_F8 := two_atL (.mk eop enm ev ks) nought 10 hHeld.1 FE.out FZ.out
                (try simp only [World.size_alloc] at y_F8)
                have F8 := Lib.hid y_F8
                clear y_F8
                have y_FE := FE.out.below (bel_atL hHeld.1)
                clear FE
                have FE := Lib.hid y_FE
                clear y_FE
                have y_FZ := FZ.out.below (bel_atL hHeld.1)
                clear FZ
                have FZ := Lib.hid y_FZ
                clear y_FZ
                refine wpAnyH_ready (rs := [4]) (by kernel_rfl) (by simp) ?_
                refine AllReadyH.cons (o := ?o72) ?ho72 (fun K hK => ?st72) AllReadyH.nil
                case ho72 => (simp only [List.getElem?_toArray, List.getElem?_cons_succ, List.getElem?_cons_zero]; rfl)
                go_simp
                refine hK.out _ _ ?_ (fun hHeld => ?_)
                · (try dsimp only); exact HALL.out _ (hHeld.1.below (alloc1 _ _))
                clear hK K
                (try simp only [Act.put, List.setIfInBounds_toArray, List.set_cons_zero, List.set_cons_succ])
                have y_F4 := three_atL (.mk eop enm ev ks) nought (conX v) 13 hHeld.1 FE.out FZ.out (ExE.leaf _ (conX v) rfl)
                (try simp only [World.size_alloc] at y_F4)
                have F4 := Lib.hid y_F4
                clear y_F4
                have y_FE := FE.out.below (bel_atL hHeld.1)
                clear FE
                have FE := Lib.hid y_FE
                clear y_FE
                have y_FZ := FZ.out.below (bel_atL hHeld.1)
                clear FZ
                have FZ := Lib.hid y_FZ
                clear y_FZ
                have y_F8 := F8.out.below (bel_atL hHeld.1)
                clear F8
                have F8 := Lib.hid y_F8
                clear y_F8
                refine wpAnyH_ready (rs := [5]) (by kernel_rfl) (by simp) ?_
                refine AllReadyH.cons (o := ?o73) ?ho73 (fun K hK => ?st73) AllReadyH.nil
                case ho73 => (simp only [List.getElem?_toArray, List.getElem?_cons_succ, List.getElem?_cons_zero]; rfl)
                go_simp
                refine (on.out 13 _ _ _ _).mono ?_; rintro _ w3 ⟨rfl, h3⟩; have y_FE := FE.out.below (h3); clear FE; have FE := Lib.hid y_FE; clear y_FE; have y_FZ := FZ.out.below (h3); clear FZ; have FZ := Lib.hid y_FZ; clear y_FZ; have y_F8 := F8.out.below (h3); clear F8; have F8 := Lib.hid y_F8; clear y_F8; have y_F4 := F4.out.below (h3); clear F4; have F4 := Lib.hid y_F4; clear y_F4
                refine hK.out _ _ ?_ (fun hHeld => ?_)
                · (try dsimp only); exact HALL.out _ (hHeld.1.below h3)
                clear hK K
                (try simp only [Act.put, List.setIfInBounds_toArray, List.set_cons_zero, List.set_cons_succ])
                refine wpAnyH_ready (rs := [9]) (by kernel_rfl) (by simp) ?_
                refine AllReadyH.cons (o := ?o74) ?ho74 (fun K hK => ?st74) AllReadyH.nil
                case ho74 => (simp only [List.getElem?_toArray, List.getElem?_cons_succ, List.getElem?_cons_zero]; rfl)
                go_simp
                refine (on.out 10 _ _ _ _).mono ?_; rintro _ w4 ⟨rfl, h4⟩; have y_FE := FE.out.below (h4); clear FE; have FE := Lib.hid y_FE; clear y_FE; have y_FZ := FZ.out.below (h4); clear FZ; have FZ := Lib.hid y_FZ; clear y_FZ; have y_F8 := F8.out.below (h4); clear F8; have F8 := Lib.hid y_F8; clear y_F8; have y_F4 := F4.out.below (h4); clear F4; have F4 := Lib.hid y_F4; clear y_F4
                refine hK.out _ _ ?_ (fun hHeld => ?_)
                · (try dsimp only); exact HALL.out _ (hHeld.1.below h4)
                clear hK K
                (try simp only [Act.put, List.setIfInBounds_toArray, List.set_cons_zero, List.set_cons_succ])
                refine wpAnyH_ready (rs := [10]) (by kernel_rfl) (by simp) ?_
                refine AllReadyH.cons (o := ?o75) ?ho75 (fun K hK => ?st75) AllReadyH.nil
                case ho75 => (simp only [List.getElem?_toArray, List.getElem?_cons_succ, List.getElem?_cons_zero]; rfl)
                go_simp
                refine hK.out _ _ ?_ (fun hHeld => ?_)
                · (try dsimp only); exact HALL.out _ (hHeld.1.below (alloc1 _ _))
                clear hK K
                (try simp only [Act.put, List.setIfInBounds_toArray, List.set_cons_zero, List.set_cons_succ])
                have y_F10 := two_atL (opX 13 [.mk eop enm ev ks, nought, conX v]) (opX 10 [.mk eop enm ev ks, nought]) 0 hHeld.1 F4.out F8.out
                (try simp only [World.size_alloc] at y_F10)
                have F10 := Lib.hid y_F10
                clear y_F10
                have y_FE := FE.out.below (bel_atL hHeld.1)
                clear FE
                have FE := Lib.hid y_FE
                clear y_FE
                have y_FZ := FZ.out.below (bel_atL hHeld.1)
                clear FZ
                have FZ := Lib.hid y_FZ
                clear y_FZ
                have y_F8 := F8.out.below (bel_atL hHeld.1)
                clear F8
                have F8 := Lib.hid y_F8
                clear y_F8
                have y_F4 := F4.out.below (bel_atL hHeld.1)
                clear F4
                have F4 := Lib.hid y_F4
                clear y_F4
                refine wpAnyH_take (i := 11) (oi := ?oi76) (v := ?v76) ?hi76 (by kernel_rfl) (by kernel_rfl) (by kernel_rfl) ?hQ76 (Or.inl ⟨?hw76, ?hy76⟩) (by assumption) ?rest76
                case hi76 => (simp only [List.getElem?_toArray, List.getElem?_cons_succ, List.getElem?_cons_zero]; rfl)
                case hQ76 => exact fun _ _ _ h => h
                case hw76 => rfl
                case hy76 => (intro w hSw; (try dsimp only at hSw); go_simp; try with_reducible rfl)
                (try simp only [Act.put, List.setIfInBounds_toArray, List.set_cons_zero, List.set_cons_succ])
                refine wpAnyH_done (by kernel_rfl) ?_ _
                go_wp2_with fail
                go_meet
                exact ⟨_, rfl, hHeld.1, F10.out, FZ.out⟩
              ·
               go_simp
               refine hK.out _ _ ?_ (fun hHeld => ?_)
               · (try dsimp only); exact HALL.out _ (hHeld.1.below (alloc1 _ _))
               clear hK K
               (try simp only [Act.put, List.setIfInBounds_toArray, List.set_cons_zero, List.set_cons_succ])
               have y_F8 := two_atL (.mk eop enm ev ks) nought 10 hHeld.1 FE.out FZ.out
               (try simp only [World.size_alloc] at y_F8)
               have F8 := Lib.hid y_F8
               clear y_F8
               have y_FE := FE.out.below (bel_atL hHeld.1)
               clear FE
               have FE := Lib.hid y_FE
               clear y_FE
               have y_FZ := FZ.out.below (bel_atL hHeld.1)
               clear FZ
               have FZ := Lib.hid y_FZ
               clear y_FZ
               refine wpAnyH_ready (rs := [3]) (by kernel_rfl) (by simp) ?_
               refine AllReadyH.cons (o := ?o77) ?ho77 (fun K hK => ?st77) AllReadyH.nil
               case ho77 => (simp only [List.getElem?_toArray, List.getElem?_cons_succ, List.getElem?_cons_zero]; rfl)
               go_simp
               refine (cn.out v _).mono ?_; rintro _ w1 ⟨rfl, h1⟩; have y_FE := FE.out.below (h1); clear FE; have FE := Lib.hid y_FE; clear y_FE; have y_FZ := FZ.out.below (h1); clear FZ; have FZ := Lib.hid y_FZ; clear y_FZ; have y_F8 := F8.out.below (h1); clear F8; have F8 := Lib.hid y_F8; clear y_F8
               refine hK.out _ _ ?_ (fun hHeld => ?_)
               · (try dsimp only); exact HALL.out _ (hHeld.1.below h1)
               clear hK K
               (try simp only [Act.put, List.setIfInBounds_toArray, List.set_cons_zero, List.set_cons_succ])
               refine wpAnyH_ready (rs := [4]) (by kernel_rfl) (by simp) ?_
               refine AllReadyH.cons (o := ?o78) ?ho78 (fun K hK => ?st78) AllReadyH.nil
               case ho78 => (simp only [List.getElem?_toArray, List.getElem?_cons_succ, List.getElem?_cons_zero]; rfl)
               go_simp
               refine hK.out _ _ ?_ (fun hHeld => ?_)
               · (try dsimp only); exact HALL.out _ (hHeld.1.below (alloc1 _ _))
               clear hK K
               (try simp only [Act.put, List.setIfInBounds_toArray, List.set_cons_zero, List.set_cons_succ])
               have y_F4 := three_atL (.mk eop enm ev ks) nought (conX v) 13 hHeld.1 FE.out FZ.out (ExE.leaf _ (conX v) rfl)
               (try simp only [World.size_alloc] at y_F4)
               have F4 := Lib.hid y_F4
               clear y_F4
               have y_FE := FE.out.below (bel_atL hHeld.1)
               clear FE
               have FE := Lib.hid y_FE
               clear y_FE
               have y_FZ := FZ.out.below (bel_atL hHeld.1)
               clear FZ
               have FZ := Lib.hid y_FZ
               clear y_FZ
               have y_F8 := F8.out.below (bel_atL hHeld.1)
               clear F8
               have F8 := Lib.hid y_F8
               clear y_F8
               refine wpAnyH_ready (rs := [5]) (by kernel_rfl) (by simp) ?_
               refine AllReadyH.cons (o := ?o79) ?ho79 (fun K hK => ?st79) AllReadyH.nil
               case ho79 => (simp only [List.getElem?_toArray, List.getElem?_cons_succ, List.getElem?_cons_zero]; rfl)
               go_simp
               refine (on.out 13 _ _ _ _).mono ?_; rintro _ w3 ⟨rfl, h3⟩; have y_FE := FE.out.below (h3); clear FE; have FE := Lib.hid y_FE; clear y_FE; have y_FZ := FZ.out.below (h3); clear FZ; have FZ := Lib.hid y_FZ; clear y_FZ; have y_F8 := F8.out.below (h3); clear F8; have F8 := Lib.hid y_F8; clear y_F8; have y_F4 := F4.out.below (h3); clear F4; have F4 := Lib.hid y_F4; clear y_F4
               refine hK.out _ _ ?_ (fun hHeld => ?_)
               · (try dsimp only); exact HALL.out _ (hHeld.1.below h3)
               clear hK K
               (try simp only [Act.put, List.setIfInBounds_toArray, List.set_cons_zero, List.set_cons_succ])
               refine wpAnyH_ready (rs := [9]) (by kernel_rfl) (by simp) ?_
               refine AllReadyH.cons (o := ?o80) ?ho80 (fun K hK => ?st80) AllReadyH.nil
               case ho80 => (simp only [List.getElem?_toArray, List.getElem?_cons_succ, List.getElem?_cons_zero]; rfl)
               go_simp
               refine (on.out 10 _ _ _ _).mono ?_; rintro _ w4 ⟨rfl, h4⟩; have y_FE := FE.out.below (h4); clear FE; have FE := Lib.hid y_FE; clear y_FE; have y_FZ := FZ.out.below (h4); clear FZ; have FZ := Lib.hid y_FZ; clear y_FZ; have y_F8 := F8.out.below (h4); clear F8; have F8 := Lib.hid y_F8; clear y_F8; have y_F4 := F4.out.below (h4); clear F4; have F4 := Lib.hid y_F4; clear y_F4
               refine hK.out _ _ ?_ (fun hHeld => ?_)
               · (try dsimp only); exact HALL.out _ (hHeld.1.below h4)
               clear hK K
               (try simp only [Act.put, List.setIfInBounds_toArray, List.set_cons_zero, List.set_cons_succ])
               refine wpAnyH_ready (rs := [10]) (by kernel_rfl) (by simp) ?_
               refine AllReadyH.cons (o := ?o81) ?ho81 (fun K hK => ?st81) AllReadyH.nil
               case ho81 => (simp only [List.getElem?_toArray, List.getElem?_cons_succ, List.getElem?_cons_zero]; rfl)
               go_simp
               refine hK.out _ _ ?_ (fun hHeld => ?_)
               · (try dsimp only); exact HALL.out _ (hHeld.1.below (alloc1 _ _))
               clear hK K
               (try simp only [Act.put, List.setIfInBounds_toArray, List.set_cons_zero, List.set_cons_succ])
               have y_F10 := two_atL (opX 13 [.mk eop enm ev ks, nought, conX v]) (opX 10 [.mk eop enm ev ks, nought]) 0 hHeld.1 F4.out F8.out
               (try simp only [World.size_alloc] at y_F10)
               have F10 := Lib.hid y_F10
               clear y_F10
               have y_FE := FE.out.below (bel_atL hHeld.1)
               clear FE
               have FE := Lib.hid y_FE
               clear y_FE
               have y_FZ := FZ.out.below (bel_atL hHeld.1)
               clear FZ
               have FZ := Lib.hid y_FZ
               clear y_FZ
               have y_F8 := F8.out.below (bel_atL hHeld.1)
               clear F8
               have F8 := Lib.hid y_F8
               clear y_F8
               have y_F4 := F4.out.below (bel_atL hHeld.1)
               clear F4
               have F4 := Lib.hid y_F4
               clear y_F4
               refine wpAnyH_take (i := 11) (oi := ?oi82) (v := ?v82) ?hi82 (by kernel_rfl) (by kernel_rfl) (by kernel_rfl) ?hQ82 (Or.inl ⟨?hw82, ?hy82⟩) (by assumption) ?rest82
               case hi82 => (simp only [List.getElem?_toArray, List.getElem?_cons_succ, List.getElem?_cons_zero]; rfl)
               case hQ82 => exact fun _ _ _ h => h
               case hw82 => rfl
               case hy82 => (intro w hSw; (try dsimp only at hSw); go_simp; try with_reducible rfl)
               (try simp only [Act.put, List.setIfInBounds_toArray, List.set_cons_zero, List.set_cons_succ])
               refine wpAnyH_done (by kernel_rfl) ?_ _
               go_wp2_with fail
               go_meet
               exact ⟨_, rfl, hHeld.1, F10.out, FZ.out⟩
            case rest =>
              obtain ⟨gl, rfl, hlz, htl, hfzz⟩ := hcut
              have FZZ := Lib.hid hfzz
              clear hfzz
              clear LZ
              have LZ := Lib.hid hlz
              clear hlz
              have hb := HBB.out
              have hTTT : ∀ (j : Nat) (hj : j < 2), smallX [opX 13 [.mk eop enm ev ks, nought, conX v], opX 10 [.mk eop enm ev ks, nought]][j] = true → evalP [opX 13 [.mk eop enm ev ks, nought, conX v], opX 10 [.mk eop enm ev ks, nought]][j] fs vs = (v, 0) := (fun j hj hs => by
                match j, hj with
                | 0, _ => exact lz_if_f HCK.out HRV.out (HP.out.1 6) HP.out.2 hb hs
                | 1, _ => exact lz_or HCK.out HRV.out (HP.out.1 6) HP.out.2 10 (.inl rfl) hb hs)
              clear hb
              have OKT : Hid (∀ (j : Nat) (hj : j < 2), okX 6 [opX 13 [.mk eop enm ev ks, nought, conX v], opX 10 [.mk eop enm ev ks, nought]][j]) := Lib.hid (fun j hj => by
                have hov := (lz_eval HCK.out HRV.out (HP.out.1 6) HP.out.2).2.2.2
                have hon : okX 5 nought := ok5_two (by unfold in64; omega) (ok5_two (by unfold in64; omega) (ok5_con (ok_int (by unfold in64; omega))) (ok5_con (ok_int (by unfold in64; omega)))) (ok5_con (ok_int (by unfold in64; omega)))
                match j, hj with
                | 0, _ => exact ok5_op (by unfold in64; omega) (fun k hk => by
                    rcases List.mem_cons.1 hk with rfl | hk
                    · exact HP.out.1 5
                    rcases List.mem_cons.1 hk with rfl | hk
                    · first | exact ok5_con hov | exact hon
                    rcases List.mem_cons.1 hk with rfl | hk
                    · first | exact ok5_con hov | exact hon
                    cases hk)
                | 1, _ => exact ok5_two (by unfold in64; omega) (HP.out.1 5) hon)
              have HTT : Hid (∀ (j : Nat) (hj : j < 2), smallX [opX 13 [.mk eop enm ev ks, nought, conX v], opX 10 [.mk eop enm ev ks, nought]][j] = true → evalP [opX 13 [.mk eop enm ev ks, nought, conX v], opX 10 [.mk eop enm ev ks, nought]][j] fs vs = (v, 0)) := Lib.hid hTTT
              clear hTTT
              have TL := Lib.hid htl
              clear htl
              generalize opX 13 [.mk eop enm ev ks, nought, conX v] = t1 at *
              generalize opX 10 [.mk eop enm ev ks, nought] = t2 at *
              go_wp2_with fail
              go_loopw [11] (fun i wr => ∃ j : Nat, j ≤ 2 ∧ i = .int .i64 j ∧ LzA w FA fs.length FC VA vs.length VC eop A ks.length c enm ev b7 v bz gz wr ∧ ExE wr (some ⟨gl, 0, none⟩) 2 (opX 0 [t1, t2])) (fun i _ => 2 - (intOf i).toNat)
              case atStart => exact ⟨0, Nat.zero_le _, rfl, LZ.out, TL.out⟩
              case round =>
                obtain ⟨j, hj, rfl, hlz, htl⟩ := hrel
                have LZ := Lib.hid hlz
                have TL := Lib.hid htl
                clear hlz htl
                by_cases hlt : j < 2
                · have hltI : (j : Int) < 2 := by omega
                  obtain ⟨D', hK⟩ := TL.out
                  obtain ⟨-, -, -, h4⟩ := hK.open
                  obtain ⟨ad, kA, kc, had, hbl, hkid, hkk⟩ := h4 j (show j < 2 from hlt)
                  injection had with had
                  subst had
                  clear h4 hK
                  obtain ⟨t, ht⟩ : ∃ t, t = [t1, t2][j] := ⟨_, rfl⟩
                  have hkd : Kid wr ⟨gl, j * 8, none⟩ t.op kA t.kids.length kc t.name t.val := by
                    have h := hkid
                    rw [Addr.add_lit, Nat.zero_add] at h
                    rw [ht]
                    exact h
                  have hex : ExE wr kA kc t := by rw [ht]; exact ⟨_, hkk⟩
                  have hsmc : ∀ W, Below wr.heap.size wr W → Calls Try.prog 15 #[agX t.op kA t.kids.length kc t.name t.val] W (VMk (.bool (smallX t)) W) := fun W hb => by
                    obtain ⟨D2, h2⟩ := hex.below hb
                    exact rSmall_any D2 t kA kc W h2
                  have hevt : smallX t = true → ∀ W, Below wr.heap.size wr W → Calls Try.prog 10 #[agX t.op kA t.kids.length kc t.name t.val, .slice FA fs.length FC, .slice VA vs.length VC] W (VMk (pairVE v 0) W) := fun hs W hb =>
                    EVT.out W (LZ.out.sb.bel.trans (hb.mono LZ.out.sb.bel.size)) kA kc t (v, 0) (hex.below hb) (by rw [ht]; exact OKT.out j hlt) (by rw [ht] at hs ⊢; exact HTT.out j hlt hs)
                  clear hkid hkk hex ht
                  generalize smallX t = sm at hsmc hevt
                  generalize t.op = kop at *
                  generalize t.name = knm at *
                  generalize t.val = ky at *
                  generalize t.kids.length = kn at *
                  have SMC := Lib.hid hsmc
                  have HKD := Lib.hid hkd
                  clear hsmc
                  obtain ⟨q0, q1, q2, q3, q4, q5, q6, q7⟩ := hkd
                  dsimp only at q1 q2 q3 q4 q5 q6 q7
                  go_wp2_with fail
                  refine (SMC.out wr (Below.refl _ _)).mono ?_
                  rintro _ ws ⟨rfl, hws⟩
                  clear q0 q1 q2 q3 q4 q5 q6 q7
                  rcases sm with _ | _
                  · clear hevt
                    go_wp2_with fail
                    go_roundw
                    case rel => exact ⟨j + 1, by omega, by go_num, LZ.out.below hws, TL.out.below hws⟩
                    case measure => simp [intOf]; omega
                  · have hevk := hevt rfl
                    have EVK := Lib.hid hevk
                    clear hevt hevk
                    have hall15 := fun (W : World) (hb : Below wr.heap.size wr W) => (show Below wr.heap.size wr W ∧ W.cell? ⟨w.heap.size + 1, 0, none⟩ = some (.slice FA fs.length FC) ∧ W.cell? ⟨w.heap.size + 1, 1, none⟩ = some (.slice VA vs.length VC) ∧ W.cell? ⟨gl, j * 8, none⟩ = some (.int .i64 kop) ∧ W.cell? ⟨gl, j * 8 + 1, none⟩ = some (.slice kA kn kc) ∧ W.cell? ⟨gl, j * 8 + 2, none⟩ = some (.string knm) ∧ W.cell? ⟨gl, j * 8 + 3, none⟩ = some (.int .i64 ky.k) ∧ W.cell? ⟨gl, j * 8 + 4, none⟩ = some (.int .i64 ky.i) ∧ W.cell? ⟨gl, j * 8 + 5, none⟩ = some (.bool ky.b) ∧ W.cell? ⟨gl, j * 8 + 6, none⟩ = some (.string ky.s) ∧ W.cell? ⟨gl, j * 8 + 7, none⟩ = some (.float .f64 ky.n) from ⟨hb, (LZ.out.sb.below hb).f, (LZ.out.sb.below hb).v, HKD.out.below hb (cell_lt HKD.out.1)⟩)
                    have HALL15 := Lib.hid hall15
                    clear hall15
                    go_upto_region 15 with fail
                    go_cut [12, 13] from 91 to 102 (fun s12 s13 wx => ∃ b12, s12 = .pointer (some ⟨b12, 0, none⟩) ∧ s13 = .int .i64 0 ∧ Below wr.heap.size wr wx ∧ Bx wx b12 v)
                    case first =>
                      refine wp_region_held_drew (S := (fun W => Below wr.heap.size wr W ∧ W.cell? ⟨w.heap.size + 1, 0, none⟩ = some (.slice FA fs.length FC) ∧ W.cell? ⟨w.heap.size + 1, 1, none⟩ = some (.slice VA vs.length VC) ∧ W.cell? ⟨gl, j * 8, none⟩ = some (.int .i64 kop) ∧ W.cell? ⟨gl, j * 8 + 1, none⟩ = some (.slice kA kn kc) ∧ W.cell? ⟨gl, j * 8 + 2, none⟩ = some (.string knm) ∧ W.cell? ⟨gl, j * 8 + 3, none⟩ = some (.int .i64 ky.k) ∧ W.cell? ⟨gl, j * 8 + 4, none⟩ = some (.int .i64 ky.i) ∧ W.cell? ⟨gl, j * 8 + 5, none⟩ = some (.bool ky.b) ∧ W.cell? ⟨gl, j * 8 + 6, none⟩ = some (.string ky.s) ∧ W.cell? ⟨gl, j * 8 + 7, none⟩ = some (.float .f64 ky.n))) (by kernel_rfl) (HALL15.out _ (hws.trans (Below.refl _ _).drew)) (fun hHeld => ?_)
                      generalize ws.drew = wD at *
                      refine wpAnyH_take (i := 0) (oi := ?oi83) (v := ?v83) ?hi83 (by kernel_rfl) (by kernel_rfl) (by kernel_rfl) ?hQ83 (Or.inl ⟨?hw83, ?hy83⟩) (by assumption) ?rest83
                      case hi83 => (simp only [List.getElem?_toArray, List.getElem?_cons_succ, List.getElem?_cons_zero]; rfl)
                      case hQ83 => exact fun _ _ _ h => h
                      case hw83 => rfl
                      case hy83 => (intro w hSw; (try dsimp only at hSw); go_simp; try with_reducible rfl)
                      (try simp only [Act.put, List.setIfInBounds_toArray, List.set_cons_zero, List.set_cons_succ])
                      refine wpAnyH_take (i := 1) (oi := ?oi84) (v := ?v84) ?hi84 (by kernel_rfl) (by kernel_rfl) (by kernel_rfl) ?hQ84 (Or.inl ⟨?hw84, ?hy84⟩) (by assumption) ?rest84
                      case hi84 => (simp only [List.getElem?_toArray, List.getElem?_cons_succ, List.getElem?_cons_zero]; rfl)
                      case hQ84 => exact fun _ _ _ h => h
                      case hw84 => rfl
                      case hy84 => (intro w hSw; (try dsimp only at hSw); go_simp; try with_reducible rfl)
                      (try simp only [Act.put, List.setIfInBounds_toArray, List.set_cons_zero, List.set_cons_succ])
                      refine wpAnyH_take (i := 2) (oi := ?oi85) (v := ?v85) ?hi85 (by kernel_rfl) (by kernel_rfl) (by kernel_rfl) ?hQ85 (Or.inl ⟨?hw85, ?hy85⟩) (by assumption) ?rest85
                      case hi85 => (simp only [List.getElem?_toArray, List.getElem?_cons_succ, List.getElem?_cons_zero]; rfl)
                      case hQ85 => exact fun _ _ _ h => h
                      case hw85 => rfl
                      case hy85 => (intro w hSw; (try dsimp only at hSw); go_simp; try with_reducible rfl)
                      (try simp only [Act.put, List.setIfInBounds_toArray, List.set_cons_zero, List.set_cons_succ])
                      refine wpAnyH_take (i := 3) (oi := ?oi86) (v := ?v86) ?hi86 (by kernel_rfl) (by kernel_rfl) (by kernel_rfl) ?hQ86 (Or.inl ⟨?hw86, ?hy86⟩) (by assumption) ?rest86
                      case hi86 => (simp only [List.getElem?_toArray, List.getElem?_cons_succ, List.getElem?_cons_zero]; rfl)
                      case hQ86 => exact fun _ _ _ h => h
                      case hw86 => rfl
                      case hy86 => (intro w hSw; (try dsimp only at hSw); go_simp; try with_reducible rfl)
                      (try simp only [Act.put, List.setIfInBounds_toArray, List.set_cons_zero, List.set_cons_succ])
                      refine wpAnyH_take (i := 4) (oi := ?oi87) (v := ?v87) ?hi87 (by kernel_rfl) (by kernel_rfl) (by kernel_rfl) ?hQ87 (Or.inl ⟨?hw87, ?hy87⟩) (by assumption) ?rest87
                      case hi87 => (simp only [List.getElem?_toArray, List.getElem?_cons_succ, List.getElem?_cons_zero]; rfl)
                      case hQ87 => exact fun _ _ _ h => h
                      case hw87 => rfl
                      case hy87 => (intro w hSw; (try dsimp only at hSw); go_simp; try with_reducible rfl)
                      (try simp only [Act.put, List.setIfInBounds_toArray, List.set_cons_zero, List.set_cons_succ])
                      refine wpAnyH_take (i := 5) (oi := ?oi88) (v := ?v88) ?hi88 (by kernel_rfl) (by kernel_rfl) (by kernel_rfl) ?hQ88 (Or.inl ⟨?hw88, ?hy88⟩) (by assumption) ?rest88
                      case hi88 => (simp only [List.getElem?_toArray, List.getElem?_cons_succ, List.getElem?_cons_zero]; rfl)
                      case hQ88 => exact fun _ _ _ h => h
                      case hw88 => rfl
                      case hy88 => (intro w hSw; (try dsimp only at hSw); go_simp; try with_reducible rfl)
                      (try simp only [Act.put, List.setIfInBounds_toArray, List.set_cons_zero, List.set_cons_succ])
                      refine wpAnyH_take (i := 6) (oi := ?oi89) (v := ?v89) ?hi89 (by kernel_rfl) (by kernel_rfl) (by kernel_rfl) ?hQ89 (Or.inl ⟨?hw89, ?hy89⟩) (by assumption) ?rest89
                      case hi89 => (simp only [List.getElem?_toArray, List.getElem?_cons_succ, List.getElem?_cons_zero]; rfl)
                      case hQ89 => exact fun _ _ _ h => h
                      case hw89 => rfl
                      case hy89 => (intro w hSw; (try dsimp only at hSw); go_simp; try with_reducible rfl)
                      (try simp only [Act.put, List.setIfInBounds_toArray, List.set_cons_zero, List.set_cons_succ])
                      refine wpAnyH_take (i := 7) (oi := ?oi90) (v := ?v90) ?hi90 (by kernel_rfl) (by kernel_rfl) (by kernel_rfl) ?hQ90 (Or.inl ⟨?hw90, ?hy90⟩) (by assumption) ?rest90
                      case hi90 => (simp only [List.getElem?_toArray, List.getElem?_cons_succ, List.getElem?_cons_zero]; rfl)
                      case hQ90 => exact fun _ _ _ h => h
                      case hw90 => rfl
                      case hy90 => (intro w hSw; (try dsimp only at hSw); go_simp; try with_reducible rfl)
                      (try simp only [Act.put, List.setIfInBounds_toArray, List.set_cons_zero, List.set_cons_succ])
                      refine wpAnyH_ready (rs := [8, 12]) (by kernel_rfl) (by simp) ?_
                      refine AllReadyH.cons (o := ?o91) ?ho91 (fun K hK => ?st91) (AllReadyH.cons (o := ?o92) ?ho92 (fun K hK => ?st92) AllReadyH.nil)
                      case ho91 => (simp only [List.getElem?_toArray, List.getElem?_cons_succ, List.getElem?_cons_zero]; rfl)
                      case ho92 => (simp only [List.getElem?_toArray, List.getElem?_cons_succ, List.getElem?_cons_zero]; rfl)
                      ·
                       go_simp
                       refine (EVK.out _ hHeld.1).mono ?_; rintro _ wE ⟨rfl, hE⟩
                       refine hK.out _ _ ?_ (fun hHeld => ?_)
                       · (try dsimp only); exact HALL15.out _ (btl hHeld.1 hE)
                       clear hK K
                       (try simp only [Act.put, List.setIfInBounds_toArray, List.set_cons_zero, List.set_cons_succ])
                       refine wpAnyH_take (i := 9) (oi := ?oi93) (v := ?v93) ?hi93 (by kernel_rfl) (by kernel_rfl) (by kernel_rfl) ?hQ93 (Or.inl ⟨?hw93, ?hy93⟩) (by assumption) ?rest93
                       case hi93 => (simp only [List.getElem?_toArray, List.getElem?_cons_succ, List.getElem?_cons_zero]; rfl)
                       case hQ93 => exact fun _ _ _ h => h
                       case hw93 => rfl
                       case hy93 => (intro w hSw; (try dsimp only at hSw); go_simp; try with_reducible rfl)
                       (try simp only [Act.put, List.setIfInBounds_toArray, List.set_cons_zero, List.set_cons_succ])
                       refine wpAnyH_take (i := 10) (oi := ?oi94) (v := ?v94) ?hi94 (by kernel_rfl) (by kernel_rfl) (by kernel_rfl) ?hQ94 (Or.inl ⟨?hw94, ?hy94⟩) (by assumption) ?rest94
                       case hi94 => (simp only [List.getElem?_toArray, List.getElem?_cons_succ, List.getElem?_cons_zero]; rfl)
                       case hQ94 => exact fun _ _ _ h => h
                       case hw94 => rfl
                       case hy94 => (intro w hSw; (try dsimp only at hSw); go_simp; try with_reducible rfl)
                       (try simp only [Act.put, List.setIfInBounds_toArray, List.set_cons_zero, List.set_cons_succ])
                       refine wpAnyH_take (i := 11) (oi := ?oi95) (v := ?v95) ?hi95 (by kernel_rfl) (by kernel_rfl) (by kernel_rfl) ?hQ95 (Or.inl ⟨?hw95, ?hy95⟩) (by assumption) ?rest95
                       case hi95 => (simp only [List.getElem?_toArray, List.getElem?_cons_succ, List.getElem?_cons_zero]; rfl)
                       case hQ95 => exact fun _ _ _ h => h
                       case hw95 => rfl
                       case hy95 => (intro w hSw; (try dsimp only at hSw); go_simp; try with_reducible rfl)
                       (try simp only [Act.put, List.setIfInBounds_toArray, List.set_cons_zero, List.set_cons_succ])
                       refine wpAnyH_ready (rs := [12]) (by kernel_rfl) (by simp) ?_
                       refine AllReadyH.cons (o := ?o96) ?ho96 (fun K hK => ?st96) AllReadyH.nil
                       case ho96 => (simp only [List.getElem?_toArray, List.getElem?_cons_succ, List.getElem?_cons_zero]; rfl)
                       go_simp
                       have hPre := hHeld
                       refine hK.out _ _ ?_ (fun hHeld => ?_)
                       · (try dsimp only); exact HALL15.out _ (btl hHeld.1 (alloc1 _ _))
                       clear hK K
                       (try simp only [Act.put, List.setIfInBounds_toArray, List.set_cons_zero, List.set_cons_succ])
                       refine wpAnyH_ready (rs := [13]) (by kernel_rfl) (by simp) ?_
                       refine AllReadyH.cons (o := ?o97) ?ho97 (fun K hK => ?st97) AllReadyH.nil
                       case ho97 => (simp only [List.getElem?_toArray, List.getElem?_cons_succ, List.getElem?_cons_zero]; rfl)
                       go_simp
                       refine hK.out _ _ ?_ (fun hHeld => ?_)
                       · (try dsimp only); exact HALL15.out _ (btl hPre.1 (alloc1 _ _))
                       clear hK K
                       (try simp only [Act.put, List.setIfInBounds_toArray, List.set_cons_zero, List.set_cons_succ])
                       refine wpAnyH_take (i := 14) (oi := ?oi98) (v := ?v98) ?hi98 (by kernel_rfl) (by kernel_rfl) (by kernel_rfl) ?hQ98 (Or.inl ⟨?hw98, ?hy98⟩) (by assumption) ?rest98
                       case hi98 => (simp only [List.getElem?_toArray, List.getElem?_cons_succ, List.getElem?_cons_zero]; rfl)
                       case hQ98 => exact fun _ _ _ h => h
                       case hw98 => rfl
                       case hy98 => (intro w hSw; (try dsimp only at hSw); go_simp; try with_reducible rfl)
                       (try simp only [Act.put, List.setIfInBounds_toArray, List.set_cons_zero, List.set_cons_succ])
                       refine wpAnyH_done (by kernel_rfl) ?_ _
                       go_wp2_with fail
                       go_meet
                       exact ⟨_, rfl, rfl, hHeld.1, Bx.new _ v⟩
                      ·
                       go_simp
                       have hPre := hHeld
                       refine hK.out _ _ ?_ (fun hHeld => ?_)
                       · (try dsimp only); exact HALL15.out _ (btl hHeld.1 (alloc1 _ _))
                       clear hK K
                       (try simp only [Act.put, List.setIfInBounds_toArray, List.set_cons_zero, List.set_cons_succ])
                       have y_V := vbB hHeld.1
                       have V9 := Lib.hid y_V
                       clear y_V
                       refine wpAnyH_ready (rs := [8]) (by kernel_rfl) (by simp) ?_
                       refine AllReadyH.cons (o := ?o99) ?ho99 (fun K hK => ?st99) AllReadyH.nil
                       case ho99 => (simp only [List.getElem?_toArray, List.getElem?_cons_succ, List.getElem?_cons_zero]; rfl)
                       go_simp
                       refine (EVK.out _ hHeld.1).mono ?_; rintro _ wE ⟨rfl, hE⟩; have y_V := V9.out.below hE; clear V9; have V9 := Lib.hid y_V; clear y_V
                       refine hK.out _ _ ?_ (fun hHeld => ?_)
                       · (try dsimp only); exact HALL15.out _ (btl hHeld.1 hE)
                       clear hK K
                       (try simp only [Act.put, List.setIfInBounds_toArray, List.set_cons_zero, List.set_cons_succ])
                       refine wpAnyH_take (i := 9) (oi := ?oi100) (v := ?v100) ?hi100 (by kernel_rfl) (by kernel_rfl) (by kernel_rfl) ?hQ100 (Or.inl ⟨?hw100, ?hy100⟩) (by assumption) ?rest100
                       case hi100 => (simp only [List.getElem?_toArray, List.getElem?_cons_succ, List.getElem?_cons_zero]; rfl)
                       case hQ100 => exact fun _ _ _ h => h
                       case hw100 => rfl
                       case hy100 => (intro w hSw; (try dsimp only at hSw); go_simp; try with_reducible rfl)
                       (try simp only [Act.put, List.setIfInBounds_toArray, List.set_cons_zero, List.set_cons_succ])
                       refine wpAnyH_take (i := 10) (oi := ?oi101) (v := ?v101) ?hi101 (by kernel_rfl) (by kernel_rfl) (by kernel_rfl) ?hQ101 (Or.inl ⟨?hw101, ?hy101⟩) (by assumption) ?rest101
                       case hi101 => (simp only [List.getElem?_toArray, List.getElem?_cons_succ, List.getElem?_cons_zero]; rfl)
                       case hQ101 => exact fun _ _ _ h => h
                       case hw101 => rfl
                       case hy101 => (intro w hSw; (try dsimp only at hSw); go_simp; try with_reducible rfl)
                       (try simp only [Act.put, List.setIfInBounds_toArray, List.set_cons_zero, List.set_cons_succ])
                       refine wpAnyH_take (i := 11) (oi := ?oi102) (v := ?v102) ?hi102 (by kernel_rfl) (by kernel_rfl) (by kernel_rfl) ?hQ102 (Or.inl ⟨?hw102, ?hy102⟩) (by assumption) ?rest102
                       case hi102 => (simp only [List.getElem?_toArray, List.getElem?_cons_succ, List.getElem?_cons_zero]; rfl)
                       case hQ102 => exact fun _ _ _ h => h
                       case hw102 => rfl
                       case hy102 => (intro w hSw; (try dsimp only at hSw); go_simp; try with_reducible rfl)
                       (try simp only [Act.put, List.setIfInBounds_toArray, List.set_cons_zero, List.set_cons_succ])
                       obtain ⟨u0, u1, u2, u3, u4, e0, e1, e2, e3, e4, ef⟩ := V9.out.open
                       refine wpAnyH_ready (rs := [13]) (by kernel_rfl) (by simp) ?_
                       refine AllReadyH.cons (o := ?o103) ?ho103 (fun K hK => ?st103) AllReadyH.nil
                       case ho103 => (simp only [List.getElem?_toArray, List.getElem?_cons_succ, List.getElem?_cons_zero]; rfl)
                       go_simp
                       refine hK.out _ _ ?_ (fun hHeld => ?_)
                       · (try dsimp only); exact HALL15.out _ (below_set5 hHeld.1 hPre.1.size _ _ _ _ _)
                       clear hK K
                       (try simp only [Act.put, List.setIfInBounds_toArray, List.set_cons_zero, List.set_cons_succ])
                       refine wpAnyH_take (i := 14) (oi := ?oi104) (v := ?v104) ?hi104 (by kernel_rfl) (by kernel_rfl) (by kernel_rfl) ?hQ104 (Or.inl ⟨?hw104, ?hy104⟩) (by assumption) ?rest104
                       case hi104 => (simp only [List.getElem?_toArray, List.getElem?_cons_succ, List.getElem?_cons_zero]; rfl)
                       case hQ104 => exact fun _ _ _ h => h
                       case hw104 => rfl
                       case hy104 => (intro w hSw; (try dsimp only at hSw); go_simp; try with_reducible rfl)
                       (try simp only [Act.put, List.setIfInBounds_toArray, List.set_cons_zero, List.set_cons_succ])
                       refine wpAnyH_done (by kernel_rfl) ?_ _
                       go_wp2_with fail
                       go_meet
                       exact ⟨_, rfl, rfl, hHeld.1, bx_set (r := v) e0 e1 e2 e3 e4⟩
                    case rest =>
                      obtain ⟨b12, rfl, rfl, hB, hb12⟩ := hcut
                      have hb7 := LZ.out.v7.below hB
                      obtain ⟨x0, x1, x2, x3, x4⟩ := hb7
                      obtain ⟨y0, y1, y2, y3, y4⟩ := hb12
                      have hsm : ∀ W, Calls Try.prog 16 #[agV v, agV v] W (VMk (.bool true) W) := fun W => by
                        have h := rSame_val v v W
                        rwa [same_self] at h
                      have SM := Lib.hid hsm
                      clear hsm
                      go_wp2_with fail
                      refine (SM.out _).mono ?_
                      rintro _ wz ⟨rfl, hz⟩
                      go_wp2_with fail
                      go_roundw
                      case rel => exact ⟨j + 1, by omega, by go_num, LZ.out.below (btl hB hz), TL.out.below (btl hB hz)⟩
                      case measure => simp [intOf]; omega
                · have hnI : ¬ (j : Int) < 2 := by omega
                  go_wp2_with fail
                  refine (AWK.out _).mono ?_
                  rintro _ wf ⟨rfl, hbf⟩
                  go_wp2
                  go_ret
                  exact ⟨rfl, (LZ.out.sb.below hbf).bel⟩
          · rw [hb] at hx2
            have HBB := Lib.hid hb
            have hTTT : ∀ (j : Nat) (hj : j < 2), smallX [opX 13 [.mk eop enm ev ks, conX v, nought], opX 11 [.mk eop enm ev ks, nought]][j] = true → evalP [opX 13 [.mk eop enm ev ks, conX v, nought], opX 11 [.mk eop enm ev ks, nought]][j] fs vs = (v, 0) := (fun j hj hs => by
              match j, hj with
              | 0, _ => exact lz_if_t HCK.out HRV.out (HP.out.1 6) HP.out.2 hb hs
              | 1, _ => exact lz_or HCK.out HRV.out (HP.out.1 6) HP.out.2 11 (.inr rfl) hb hs)
            clear hb
            have OKT : Hid (∀ (j : Nat) (hj : j < 2), okX 6 [opX 13 [.mk eop enm ev ks, conX v, nought], opX 11 [.mk eop enm ev ks, nought]][j]) := Lib.hid (fun j hj => by
              have hov := (lz_eval HCK.out HRV.out (HP.out.1 6) HP.out.2).2.2.2
              have hon : okX 5 nought := ok5_two (by unfold in64; omega) (ok5_two (by unfold in64; omega) (ok5_con (ok_int (by unfold in64; omega))) (ok5_con (ok_int (by unfold in64; omega)))) (ok5_con (ok_int (by unfold in64; omega)))
              match j, hj with
              | 0, _ => exact ok5_op (by unfold in64; omega) (fun k hk => by
                  rcases List.mem_cons.1 hk with rfl | hk
                  · exact HP.out.1 5
                  rcases List.mem_cons.1 hk with rfl | hk
                  · first | exact ok5_con hov | exact hon
                  rcases List.mem_cons.1 hk with rfl | hk
                  · first | exact ok5_con hov | exact hon
                  cases hk)
              | 1, _ => exact ok5_two (by unfold in64; omega) (HP.out.1 5) hon)
            have HTT : Hid (∀ (j : Nat) (hj : j < 2), smallX [opX 13 [.mk eop enm ev ks, conX v, nought], opX 11 [.mk eop enm ev ks, nought]][j] = true → evalP [opX 13 [.mk eop enm ev ks, conX v, nought], opX 11 [.mk eop enm ev ks, nought]][j] fs vs = (v, 0)) := Lib.hid hTTT
            clear hTTT
            have TL := Lib.hid htl
            clear htl
            generalize opX 13 [.mk eop enm ev ks, conX v, nought] = t1 at *
            generalize opX 11 [.mk eop enm ev ks, nought] = t2 at *
            go_wp2_with fail
            go_loopw [11] (fun i wr => ∃ j : Nat, j ≤ 2 ∧ i = .int .i64 j ∧ LzA w FA fs.length FC VA vs.length VC eop A ks.length c enm ev b7 v bz gz wr ∧ ExE wr (some ⟨gl, 0, none⟩) 2 (opX 0 [t1, t2])) (fun i _ => 2 - (intOf i).toNat)
            case atStart => exact ⟨0, Nat.zero_le _, rfl, LZ.out, TL.out⟩
            case round =>
              obtain ⟨j, hj, rfl, hlz, htl⟩ := hrel
              have LZ := Lib.hid hlz
              have TL := Lib.hid htl
              clear hlz htl
              by_cases hlt : j < 2
              · have hltI : (j : Int) < 2 := by omega
                obtain ⟨D', hK⟩ := TL.out
                obtain ⟨-, -, -, h4⟩ := hK.open
                obtain ⟨ad, kA, kc, had, hbl, hkid, hkk⟩ := h4 j (show j < 2 from hlt)
                injection had with had
                subst had
                clear h4 hK
                obtain ⟨t, ht⟩ : ∃ t, t = [t1, t2][j] := ⟨_, rfl⟩
                have hkd : Kid wr ⟨gl, j * 8, none⟩ t.op kA t.kids.length kc t.name t.val := by
                  have h := hkid
                  rw [Addr.add_lit, Nat.zero_add] at h
                  rw [ht]
                  exact h
                have hex : ExE wr kA kc t := by rw [ht]; exact ⟨_, hkk⟩
                have hsmc : ∀ W, Below wr.heap.size wr W → Calls Try.prog 15 #[agX t.op kA t.kids.length kc t.name t.val] W (VMk (.bool (smallX t)) W) := fun W hb => by
                  obtain ⟨D2, h2⟩ := hex.below hb
                  exact rSmall_any D2 t kA kc W h2
                have hevt : smallX t = true → ∀ W, Below wr.heap.size wr W → Calls Try.prog 10 #[agX t.op kA t.kids.length kc t.name t.val, .slice FA fs.length FC, .slice VA vs.length VC] W (VMk (pairVE v 0) W) := fun hs W hb =>
                  EVT.out W (LZ.out.sb.bel.trans (hb.mono LZ.out.sb.bel.size)) kA kc t (v, 0) (hex.below hb) (by rw [ht]; exact OKT.out j hlt) (by rw [ht] at hs ⊢; exact HTT.out j hlt hs)
                clear hkid hkk hex ht
                generalize smallX t = sm at hsmc hevt
                generalize t.op = kop at *
                generalize t.name = knm at *
                generalize t.val = ky at *
                generalize t.kids.length = kn at *
                have SMC := Lib.hid hsmc
                have HKD := Lib.hid hkd
                clear hsmc
                obtain ⟨q0, q1, q2, q3, q4, q5, q6, q7⟩ := hkd
                dsimp only at q1 q2 q3 q4 q5 q6 q7
                go_wp2_with fail
                refine (SMC.out wr (Below.refl _ _)).mono ?_
                rintro _ ws ⟨rfl, hws⟩
                clear q0 q1 q2 q3 q4 q5 q6 q7
                rcases sm with _ | _
                · clear hevt
                  go_wp2_with fail
                  go_roundw
                  case rel => exact ⟨j + 1, by omega, by go_num, LZ.out.below hws, TL.out.below hws⟩
                  case measure => simp [intOf]; omega
                · have hevk := hevt rfl
                  have EVK := Lib.hid hevk
                  clear hevt hevk
                  have hall15 := fun (W : World) (hb : Below wr.heap.size wr W) => (show Below wr.heap.size wr W ∧ W.cell? ⟨w.heap.size + 1, 0, none⟩ = some (.slice FA fs.length FC) ∧ W.cell? ⟨w.heap.size + 1, 1, none⟩ = some (.slice VA vs.length VC) ∧ W.cell? ⟨gl, j * 8, none⟩ = some (.int .i64 kop) ∧ W.cell? ⟨gl, j * 8 + 1, none⟩ = some (.slice kA kn kc) ∧ W.cell? ⟨gl, j * 8 + 2, none⟩ = some (.string knm) ∧ W.cell? ⟨gl, j * 8 + 3, none⟩ = some (.int .i64 ky.k) ∧ W.cell? ⟨gl, j * 8 + 4, none⟩ = some (.int .i64 ky.i) ∧ W.cell? ⟨gl, j * 8 + 5, none⟩ = some (.bool ky.b) ∧ W.cell? ⟨gl, j * 8 + 6, none⟩ = some (.string ky.s) ∧ W.cell? ⟨gl, j * 8 + 7, none⟩ = some (.float .f64 ky.n) from ⟨hb, (LZ.out.sb.below hb).f, (LZ.out.sb.below hb).v, HKD.out.below hb (cell_lt HKD.out.1)⟩)
                  have HALL15 := Lib.hid hall15
                  clear hall15
                  go_upto_region 15 with fail
                  go_cut [12, 13] from 91 to 102 (fun s12 s13 wx => ∃ b12, s12 = .pointer (some ⟨b12, 0, none⟩) ∧ s13 = .int .i64 0 ∧ Below wr.heap.size wr wx ∧ Bx wx b12 v)
                  case first =>
                    refine wp_region_held_drew (S := (fun W => Below wr.heap.size wr W ∧ W.cell? ⟨w.heap.size + 1, 0, none⟩ = some (.slice FA fs.length FC) ∧ W.cell? ⟨w.heap.size + 1, 1, none⟩ = some (.slice VA vs.length VC) ∧ W.cell? ⟨gl, j * 8, none⟩ = some (.int .i64 kop) ∧ W.cell? ⟨gl, j * 8 + 1, none⟩ = some (.slice kA kn kc) ∧ W.cell? ⟨gl, j * 8 + 2, none⟩ = some (.string knm) ∧ W.cell? ⟨gl, j * 8 + 3, none⟩ = some (.int .i64 ky.k) ∧ W.cell? ⟨gl, j * 8 + 4, none⟩ = some (.int .i64 ky.i) ∧ W.cell? ⟨gl, j * 8 + 5, none⟩ = some (.bool ky.b) ∧ W.cell? ⟨gl, j * 8 + 6, none⟩ = some (.string ky.s) ∧ W.cell? ⟨gl, j * 8 + 7, none⟩ = some (.float .f64 ky.n))) (by kernel_rfl) (HALL15.out _ (hws.trans (Below.refl _ _).drew)) (fun hHeld => ?_)
                    generalize ws.drew = wD at *
                    refine wpAnyH_take (i := 0) (oi := ?oi31) (v := ?v31) ?hi31 (by kernel_rfl) (by kernel_rfl) (by kernel_rfl) ?hQ31 (Or.inl ⟨?hw31, ?hy31⟩) (by assumption) ?rest31
                    case hi31 => (simp only [List.getElem?_toArray, List.getElem?_cons_succ, List.getElem?_cons_zero]; rfl)
                    case hQ31 => exact fun _ _ _ h => h
                    case hw31 => rfl
                    case hy31 => (intro w hSw; (try dsimp only at hSw); go_simp; try with_reducible rfl)
                    (try simp only [Act.put, List.setIfInBounds_toArray, List.set_cons_zero, List.set_cons_succ])
                    refine wpAnyH_take (i := 1) (oi := ?oi32) (v := ?v32) ?hi32 (by kernel_rfl) (by kernel_rfl) (by kernel_rfl) ?hQ32 (Or.inl ⟨?hw32, ?hy32⟩) (by assumption) ?rest32
                    case hi32 => (simp only [List.getElem?_toArray, List.getElem?_cons_succ, List.getElem?_cons_zero]; rfl)
                    case hQ32 => exact fun _ _ _ h => h
                    case hw32 => rfl
                    case hy32 => (intro w hSw; (try dsimp only at hSw); go_simp; try with_reducible rfl)
                    (try simp only [Act.put, List.setIfInBounds_toArray, List.set_cons_zero, List.set_cons_succ])
                    refine wpAnyH_take (i := 2) (oi := ?oi33) (v := ?v33) ?hi33 (by kernel_rfl) (by kernel_rfl) (by kernel_rfl) ?hQ33 (Or.inl ⟨?hw33, ?hy33⟩) (by assumption) ?rest33
                    case hi33 => (simp only [List.getElem?_toArray, List.getElem?_cons_succ, List.getElem?_cons_zero]; rfl)
                    case hQ33 => exact fun _ _ _ h => h
                    case hw33 => rfl
                    case hy33 => (intro w hSw; (try dsimp only at hSw); go_simp; try with_reducible rfl)
                    (try simp only [Act.put, List.setIfInBounds_toArray, List.set_cons_zero, List.set_cons_succ])
                    refine wpAnyH_take (i := 3) (oi := ?oi34) (v := ?v34) ?hi34 (by kernel_rfl) (by kernel_rfl) (by kernel_rfl) ?hQ34 (Or.inl ⟨?hw34, ?hy34⟩) (by assumption) ?rest34
                    case hi34 => (simp only [List.getElem?_toArray, List.getElem?_cons_succ, List.getElem?_cons_zero]; rfl)
                    case hQ34 => exact fun _ _ _ h => h
                    case hw34 => rfl
                    case hy34 => (intro w hSw; (try dsimp only at hSw); go_simp; try with_reducible rfl)
                    (try simp only [Act.put, List.setIfInBounds_toArray, List.set_cons_zero, List.set_cons_succ])
                    refine wpAnyH_take (i := 4) (oi := ?oi35) (v := ?v35) ?hi35 (by kernel_rfl) (by kernel_rfl) (by kernel_rfl) ?hQ35 (Or.inl ⟨?hw35, ?hy35⟩) (by assumption) ?rest35
                    case hi35 => (simp only [List.getElem?_toArray, List.getElem?_cons_succ, List.getElem?_cons_zero]; rfl)
                    case hQ35 => exact fun _ _ _ h => h
                    case hw35 => rfl
                    case hy35 => (intro w hSw; (try dsimp only at hSw); go_simp; try with_reducible rfl)
                    (try simp only [Act.put, List.setIfInBounds_toArray, List.set_cons_zero, List.set_cons_succ])
                    refine wpAnyH_take (i := 5) (oi := ?oi36) (v := ?v36) ?hi36 (by kernel_rfl) (by kernel_rfl) (by kernel_rfl) ?hQ36 (Or.inl ⟨?hw36, ?hy36⟩) (by assumption) ?rest36
                    case hi36 => (simp only [List.getElem?_toArray, List.getElem?_cons_succ, List.getElem?_cons_zero]; rfl)
                    case hQ36 => exact fun _ _ _ h => h
                    case hw36 => rfl
                    case hy36 => (intro w hSw; (try dsimp only at hSw); go_simp; try with_reducible rfl)
                    (try simp only [Act.put, List.setIfInBounds_toArray, List.set_cons_zero, List.set_cons_succ])
                    refine wpAnyH_take (i := 6) (oi := ?oi37) (v := ?v37) ?hi37 (by kernel_rfl) (by kernel_rfl) (by kernel_rfl) ?hQ37 (Or.inl ⟨?hw37, ?hy37⟩) (by assumption) ?rest37
                    case hi37 => (simp only [List.getElem?_toArray, List.getElem?_cons_succ, List.getElem?_cons_zero]; rfl)
                    case hQ37 => exact fun _ _ _ h => h
                    case hw37 => rfl
                    case hy37 => (intro w hSw; (try dsimp only at hSw); go_simp; try with_reducible rfl)
                    (try simp only [Act.put, List.setIfInBounds_toArray, List.set_cons_zero, List.set_cons_succ])
                    refine wpAnyH_take (i := 7) (oi := ?oi38) (v := ?v38) ?hi38 (by kernel_rfl) (by kernel_rfl) (by kernel_rfl) ?hQ38 (Or.inl ⟨?hw38, ?hy38⟩) (by assumption) ?rest38
                    case hi38 => (simp only [List.getElem?_toArray, List.getElem?_cons_succ, List.getElem?_cons_zero]; rfl)
                    case hQ38 => exact fun _ _ _ h => h
                    case hw38 => rfl
                    case hy38 => (intro w hSw; (try dsimp only at hSw); go_simp; try with_reducible rfl)
                    (try simp only [Act.put, List.setIfInBounds_toArray, List.set_cons_zero, List.set_cons_succ])
                    refine wpAnyH_ready (rs := [8, 12]) (by kernel_rfl) (by simp) ?_
                    refine AllReadyH.cons (o := ?o39) ?ho39 (fun K hK => ?st39) (AllReadyH.cons (o := ?o40) ?ho40 (fun K hK => ?st40) AllReadyH.nil)
                    case ho39 => (simp only [List.getElem?_toArray, List.getElem?_cons_succ, List.getElem?_cons_zero]; rfl)
                    case ho40 => (simp only [List.getElem?_toArray, List.getElem?_cons_succ, List.getElem?_cons_zero]; rfl)
                    ·
                     go_simp
                     refine (EVK.out _ hHeld.1).mono ?_; rintro _ wE ⟨rfl, hE⟩
                     refine hK.out _ _ ?_ (fun hHeld => ?_)
                     · (try dsimp only); exact HALL15.out _ (btl hHeld.1 hE)
                     clear hK K
                     (try simp only [Act.put, List.setIfInBounds_toArray, List.set_cons_zero, List.set_cons_succ])
                     refine wpAnyH_take (i := 9) (oi := ?oi41) (v := ?v41) ?hi41 (by kernel_rfl) (by kernel_rfl) (by kernel_rfl) ?hQ41 (Or.inl ⟨?hw41, ?hy41⟩) (by assumption) ?rest41
                     case hi41 => (simp only [List.getElem?_toArray, List.getElem?_cons_succ, List.getElem?_cons_zero]; rfl)
                     case hQ41 => exact fun _ _ _ h => h
                     case hw41 => rfl
                     case hy41 => (intro w hSw; (try dsimp only at hSw); go_simp; try with_reducible rfl)
                     (try simp only [Act.put, List.setIfInBounds_toArray, List.set_cons_zero, List.set_cons_succ])
                     refine wpAnyH_take (i := 10) (oi := ?oi42) (v := ?v42) ?hi42 (by kernel_rfl) (by kernel_rfl) (by kernel_rfl) ?hQ42 (Or.inl ⟨?hw42, ?hy42⟩) (by assumption) ?rest42
                     case hi42 => (simp only [List.getElem?_toArray, List.getElem?_cons_succ, List.getElem?_cons_zero]; rfl)
                     case hQ42 => exact fun _ _ _ h => h
                     case hw42 => rfl
                     case hy42 => (intro w hSw; (try dsimp only at hSw); go_simp; try with_reducible rfl)
                     (try simp only [Act.put, List.setIfInBounds_toArray, List.set_cons_zero, List.set_cons_succ])
                     refine wpAnyH_take (i := 11) (oi := ?oi43) (v := ?v43) ?hi43 (by kernel_rfl) (by kernel_rfl) (by kernel_rfl) ?hQ43 (Or.inl ⟨?hw43, ?hy43⟩) (by assumption) ?rest43
                     case hi43 => (simp only [List.getElem?_toArray, List.getElem?_cons_succ, List.getElem?_cons_zero]; rfl)
                     case hQ43 => exact fun _ _ _ h => h
                     case hw43 => rfl
                     case hy43 => (intro w hSw; (try dsimp only at hSw); go_simp; try with_reducible rfl)
                     (try simp only [Act.put, List.setIfInBounds_toArray, List.set_cons_zero, List.set_cons_succ])
                     refine wpAnyH_ready (rs := [12]) (by kernel_rfl) (by simp) ?_
                     refine AllReadyH.cons (o := ?o44) ?ho44 (fun K hK => ?st44) AllReadyH.nil
                     case ho44 => (simp only [List.getElem?_toArray, List.getElem?_cons_succ, List.getElem?_cons_zero]; rfl)
                     go_simp
                     have hPre := hHeld
                     refine hK.out _ _ ?_ (fun hHeld => ?_)
                     · (try dsimp only); exact HALL15.out _ (btl hHeld.1 (alloc1 _ _))
                     clear hK K
                     (try simp only [Act.put, List.setIfInBounds_toArray, List.set_cons_zero, List.set_cons_succ])
                     refine wpAnyH_ready (rs := [13]) (by kernel_rfl) (by simp) ?_
                     refine AllReadyH.cons (o := ?o45) ?ho45 (fun K hK => ?st45) AllReadyH.nil
                     case ho45 => (simp only [List.getElem?_toArray, List.getElem?_cons_succ, List.getElem?_cons_zero]; rfl)
                     go_simp
                     refine hK.out _ _ ?_ (fun hHeld => ?_)
                     · (try dsimp only); exact HALL15.out _ (btl hPre.1 (alloc1 _ _))
                     clear hK K
                     (try simp only [Act.put, List.setIfInBounds_toArray, List.set_cons_zero, List.set_cons_succ])
                     refine wpAnyH_take (i := 14) (oi := ?oi46) (v := ?v46) ?hi46 (by kernel_rfl) (by kernel_rfl) (by kernel_rfl) ?hQ46 (Or.inl ⟨?hw46, ?hy46⟩) (by assumption) ?rest46
                     case hi46 => (simp only [List.getElem?_toArray, List.getElem?_cons_succ, List.getElem?_cons_zero]; rfl)
                     case hQ46 => exact fun _ _ _ h => h
                     case hw46 => rfl
                     case hy46 => (intro w hSw; (try dsimp only at hSw); go_simp; try with_reducible rfl)
                     (try simp only [Act.put, List.setIfInBounds_toArray, List.set_cons_zero, List.set_cons_succ])
                     refine wpAnyH_done (by kernel_rfl) ?_ _
                     go_wp2_with fail
                     go_meet
                     exact ⟨_, rfl, rfl, hHeld.1, Bx.new _ v⟩
                    ·
                     go_simp
                     have hPre := hHeld
                     refine hK.out _ _ ?_ (fun hHeld => ?_)
                     · (try dsimp only); exact HALL15.out _ (btl hHeld.1 (alloc1 _ _))
                     clear hK K
                     (try simp only [Act.put, List.setIfInBounds_toArray, List.set_cons_zero, List.set_cons_succ])
                     have y_V := vbB hHeld.1
                     have V9 := Lib.hid y_V
                     clear y_V
                     refine wpAnyH_ready (rs := [8]) (by kernel_rfl) (by simp) ?_
                     refine AllReadyH.cons (o := ?o47) ?ho47 (fun K hK => ?st47) AllReadyH.nil
                     case ho47 => (simp only [List.getElem?_toArray, List.getElem?_cons_succ, List.getElem?_cons_zero]; rfl)
                     go_simp
                     refine (EVK.out _ hHeld.1).mono ?_; rintro _ wE ⟨rfl, hE⟩; have y_V := V9.out.below hE; clear V9; have V9 := Lib.hid y_V; clear y_V
                     refine hK.out _ _ ?_ (fun hHeld => ?_)
                     · (try dsimp only); exact HALL15.out _ (btl hHeld.1 hE)
                     clear hK K
                     (try simp only [Act.put, List.setIfInBounds_toArray, List.set_cons_zero, List.set_cons_succ])
                     refine wpAnyH_take (i := 9) (oi := ?oi48) (v := ?v48) ?hi48 (by kernel_rfl) (by kernel_rfl) (by kernel_rfl) ?hQ48 (Or.inl ⟨?hw48, ?hy48⟩) (by assumption) ?rest48
                     case hi48 => (simp only [List.getElem?_toArray, List.getElem?_cons_succ, List.getElem?_cons_zero]; rfl)
                     case hQ48 => exact fun _ _ _ h => h
                     case hw48 => rfl
                     case hy48 => (intro w hSw; (try dsimp only at hSw); go_simp; try with_reducible rfl)
                     (try simp only [Act.put, List.setIfInBounds_toArray, List.set_cons_zero, List.set_cons_succ])
                     refine wpAnyH_take (i := 10) (oi := ?oi49) (v := ?v49) ?hi49 (by kernel_rfl) (by kernel_rfl) (by kernel_rfl) ?hQ49 (Or.inl ⟨?hw49, ?hy49⟩) (by assumption) ?rest49
                     case hi49 => (simp only [List.getElem?_toArray, List.getElem?_cons_succ, List.getElem?_cons_zero]; rfl)
                     case hQ49 => exact fun _ _ _ h => h
                     case hw49 => rfl
                     case hy49 => (intro w hSw; (try dsimp only at hSw); go_simp; try with_reducible rfl)
                     (try simp only [Act.put, List.setIfInBounds_toArray, List.set_cons_zero, List.set_cons_succ])
                     refine wpAnyH_take (i := 11) (oi := ?oi50) (v := ?v50) ?hi50 (by kernel_rfl) (by kernel_rfl) (by kernel_rfl) ?hQ50 (Or.inl ⟨?hw50, ?hy50⟩) (by assumption) ?rest50
                     case hi50 => (simp only [List.getElem?_toArray, List.getElem?_cons_succ, List.getElem?_cons_zero]; rfl)
                     case hQ50 => exact fun _ _ _ h => h
                     case hw50 => rfl
                     case hy50 => (intro w hSw; (try dsimp only at hSw); go_simp; try with_reducible rfl)
                     (try simp only [Act.put, List.setIfInBounds_toArray, List.set_cons_zero, List.set_cons_succ])
                     obtain ⟨u0, u1, u2, u3, u4, e0, e1, e2, e3, e4, ef⟩ := V9.out.open
                     refine wpAnyH_ready (rs := [13]) (by kernel_rfl) (by simp) ?_
                     refine AllReadyH.cons (o := ?o51) ?ho51 (fun K hK => ?st51) AllReadyH.nil
                     case ho51 => (simp only [List.getElem?_toArray, List.getElem?_cons_succ, List.getElem?_cons_zero]; rfl)
                     go_simp
                     refine hK.out _ _ ?_ (fun hHeld => ?_)
                     · (try dsimp only); exact HALL15.out _ (below_set5 hHeld.1 hPre.1.size _ _ _ _ _)
                     clear hK K
                     (try simp only [Act.put, List.setIfInBounds_toArray, List.set_cons_zero, List.set_cons_succ])
                     refine wpAnyH_take (i := 14) (oi := ?oi52) (v := ?v52) ?hi52 (by kernel_rfl) (by kernel_rfl) (by kernel_rfl) ?hQ52 (Or.inl ⟨?hw52, ?hy52⟩) (by assumption) ?rest52
                     case hi52 => (simp only [List.getElem?_toArray, List.getElem?_cons_succ, List.getElem?_cons_zero]; rfl)
                     case hQ52 => exact fun _ _ _ h => h
                     case hw52 => rfl
                     case hy52 => (intro w hSw; (try dsimp only at hSw); go_simp; try with_reducible rfl)
                     (try simp only [Act.put, List.setIfInBounds_toArray, List.set_cons_zero, List.set_cons_succ])
                     refine wpAnyH_done (by kernel_rfl) ?_ _
                     go_wp2_with fail
                     go_meet
                     exact ⟨_, rfl, rfl, hHeld.1, bx_set (r := v) e0 e1 e2 e3 e4⟩
                  case rest =>
                    obtain ⟨b12, rfl, rfl, hB, hb12⟩ := hcut
                    have hb7 := LZ.out.v7.below hB
                    obtain ⟨x0, x1, x2, x3, x4⟩ := hb7
                    obtain ⟨y0, y1, y2, y3, y4⟩ := hb12
                    have hsm : ∀ W, Calls Try.prog 16 #[agV v, agV v] W (VMk (.bool true) W) := fun W => by
                      have h := rSame_val v v W
                      rwa [same_self] at h
                    have SM := Lib.hid hsm
                    clear hsm
                    go_wp2_with fail
                    refine (SM.out _).mono ?_
                    rintro _ wz ⟨rfl, hz⟩
                    go_wp2_with fail
                    go_roundw
                    case rel => exact ⟨j + 1, by omega, by go_num, LZ.out.below (btl hB hz), TL.out.below (btl hB hz)⟩
                    case measure => simp [intOf]; omega
              · have hnI : ¬ (j : Int) < 2 := by omega
                go_wp2_with fail
                refine (AWK.out _).mono ?_
                rintro _ wf ⟨rfl, hbf⟩
                go_wp2
                go_ret
                exact ⟨rfl, (LZ.out.sb.below hbf).bel⟩
      · have hkb : (k != 2) = true := by simpa using hk2
        subst hx0 hy0
        go_wp2_with fail
        refine (AWK.out _).mono ?_
        rintro _ w4 ⟨rfl, hb4⟩
        go_wp2
        go_ret
        exact ⟨rfl, (S4.out.below hb4).bel⟩
    · have hyb : (y != 0) = true := by simpa using hy0
      subst hx0
      go_wp2_with fail
      refine (AWK.out _).mono ?_
      rintro _ w4 ⟨rfl, hb4⟩
      go_wp2
      go_ret
      exact ⟨rfl, (S4.out.below hb4).bel⟩
  · have hxb : (x != 0) = true := by simpa using hx0
    go_wp2_with fail
    refine (AWK.out _).mono ?_
    rintro _ w4 ⟨rfl, hb4⟩
    go_wp2
    go_ret
    exact ⟨rfl, (S4.out.below hb4).bel⟩
end Go.Proofs.Ytcjickillendfaa
