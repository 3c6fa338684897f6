/- Layer 4: the laws' arguments, opened. -/
import Derived.Test.YtlnpolepgdoloaaVFits
import Derived.Test.YtlnpolepgdoloaaArgs
namespace Go.Proofs.Ytlnpolepgdoloaa
open Go.RowKit Go.ChangeShapes Go.WideShapes Go.ChangeAt
set_option linter.unusedVariables false
set_option linter.unusedSimpArgs false
set_option maxRecDepth 20000

section
variable {H : Type} {enc : TypeId × Value → H} {W : World} {sp : Nat → Bool} {hd : Bool} {base : Nat} {v : Value} {d : DataW H} {ps : List MemPlace}

theorem in64_of {n : Int} (h : (Lit.int .i64 n).wf = true) : in64 n := by
  simp [Lit.wf, IntKind.min, IntKind.max, IntKind.signed, IntKind.bits] at h
  unfold in64
  omega
theorem word_of {n : Nat} (h : (Lit.float .f64 n).wf = true) : n < 18446744073709551616 := by
  have : decide (n < 2 ^ 64) = true := h
  simpa using this
theorem open_num64 (hv : Value.okWide Try.prog W .any base 3 v) (h : DataW.Trod enc Try.prog W 0 sp hd 3 v d ps) : ∃ n : Int, v = .int .i64 n ∧ in64 n := by
  obtain ⟨n, rfl, -, -, hw⟩ := open_int Try.underlying3 hv h
  exact ⟨n, rfl, in64_of hw⟩
theorem open_i64 (hv : Value.okWide Try.prog W .any base 2 v) (h : DataW.Trod enc Try.prog W 0 sp hd 2 v d ps) : ∃ n : Int, v = .int .i64 n ∧ in64 n := by
  obtain ⟨n, rfl, -, -, hw⟩ := open_int Try.underlying2 hv h
  exact ⟨n, rfl, in64_of hw⟩
theorem open_f64 (hv : Value.okWide Try.prog W .any base 22 v) (h : DataW.Trod enc Try.prog W 0 sp hd 22 v d ps) : ∃ n : Nat, v = .float .f64 n ∧ n < 18446744073709551616 := by
  obtain ⟨n, rfl, -, -, hw⟩ := open_float Try.underlying22 hv h
  exact ⟨n, rfl, word_of hw⟩

/-- what is known of a value that is handed in -/
def okV (v : Vl) : Prop := in64 v.k ∧ in64 v.i ∧ v.n < 18446744073709551616
theorem open_value5 {m : Nat} {cs : List Value} {x : DataW H × List MemPlace} (ht : DataW.trod enc Try.prog W 0 sp hd m 24 cs = some x) (hlen : cs.length = 5) :
    ∃ y : Vl, cs = [.int .i64 y.k, .int .i64 y.i, .bool y.b, .string y.s, .float .f64 y.n] ∧ okV y := by
  obtain ⟨ys, m, -, -, -, hys, hfs⟩ := DataW.trod_struct Try.underlying24 ht
  match cs, hlen with
  | [c0, c1, c2, c3, c4], _ =>
    match ys, hys with
    | [y0, y1, y2, y3, y4], _ =>
      have k1 : Try.prog.cellsOf 3 = 1 := by kernel_rfl
      have k2 : Try.prog.cellsOf 2 = 1 := by kernel_rfl
      have k3 : Try.prog.cellsOf 4 = 1 := by kernel_rfl
      have k4 : Try.prog.cellsOf 9 = 1 := by kernel_rfl
      have k5 : Try.prog.cellsOf 22 = 1 := by kernel_rfl
      have g0 := hfs 0 _ rfl
      have g1 := hfs 1 _ rfl
      have g2 := hfs 2 _ rfl
      have g3 := hfs 3 _ rfl
      have g4 := hfs 4 _ rfl
      simp [k1, k2, k3, k4, k5] at g0 g1 g2 g3 g4
      obtain ⟨z0, h0, -, w0⟩ := DataW.trod_int Try.underlying3 g0
      obtain ⟨z1, h1, -, w1⟩ := DataW.trod_int Try.underlying2 g1
      obtain ⟨z2, h2, -⟩ := DataW.trod_bool Try.underlying4 g2
      obtain ⟨z3, h3, -⟩ := DataW.trod_string Try.underlying9 g3
      obtain ⟨z4, h4, w4⟩ := trod_float Try.underlying22 g4
      simp at h0 h1 h2 h3 h4
      subst h0 h1 h2 h3 h4
      exact ⟨⟨z0, z1, z2, z3, z4⟩, rfl, in64_of w0, in64_of w1, word_of w4⟩
theorem open_value (hv : Value.okWide Try.prog W .any base 24 v) (h : DataW.Trod enc Try.prog W 0 sp hd 24 v d ps) : ∃ y : Vl, v = agV y ∧ okV y := by
  obtain ⟨cs, rfl, hsz⟩ := okWide_struct Try.underlying24 hv
  obtain ⟨fuel, hf⟩ := h
  have k0 : Try.prog.cellsOf 24 = 5 := by kernel_rfl
  rw [k0] at hsz
  obtain ⟨y, hc, hy⟩ := open_value5 hf (by simpa [Value.cells] using hsz)
  refine ⟨y, ?_, hy⟩
  obtain ⟨l⟩ := cs
  simp [Value.cells] at hc
  rw [hc]
theorem open_texts {m : Nat} {x : DataW H × List MemPlace} {c : Value} (h : DataW.trod enc Try.prog W 0 sp hd m 25 [c] = some x) : ∃ ss, Ss W c ss := by
  rcases DataW.trod_slice Try.underlying25 h with ⟨hc, -⟩ | ⟨a, len', cap', elems, rest, n, -, hc, -, -, hl, hm, hel, hx, -, -⟩
  · injection hc with hc
    subst hc
    exact ⟨[], Rd.nil W⟩
  · injection hc with hc
    subst hc
    have hone : Try.prog.cellsOf 9 = 1 := by kernel_rfl
    have each : ∀ i, i < len' → ∃ x : ByteArray, W.cell? (a.add i) = some (.string x) := by
      intro i hi
      have h1 := hx i hi
      rw [hone, Nat.mul_one, List.getElem?_eq_getElem (by omega)] at h1
      obtain ⟨cs, hcs, ht⟩ := Option.bind_eq_some_iff.1 h1
      obtain ⟨-, hlen, hat⟩ := World.cells?_some hcs
      match cs, hlen with
      | [x], _ =>
        have h0 := hat 0 (by simp)
        rw [Addr.add_zero'] at h0
        obtain ⟨z, hz, -⟩ := DataW.trod_string Try.underlying9 ht
        injection hz with hz
        exact ⟨z, by rw [h0, hz]; rfl⟩
    have inst : Inhabited ByteArray := ⟨⟨#[]⟩⟩
    obtain ⟨f, hf'⟩ := Deep.choose_lt each
    refine ⟨(List.range len').map f, some a, cap', by simp, by simpa using hl, hm, (by intro h; cases h), fun hne => ⟨a, rfl, ?_, ?_⟩⟩
    · have hpos : 0 < len' := by
        rcases Nat.eq_zero_or_pos len' with h0 | h0
        · subst h0; exact absurd rfl hne
        · exact h0
      have := cell_lt (hf' 0 hpos)
      rwa [block_add] at this
    · intro j u hj
      have hjl : j < len' := by
        have := (List.getElem?_eq_some_iff.1 hj).1
        simpa using this
      simp [hjl] at hj
      rw [← hj]
      exact hf' j hjl
theorem open_field (hv : Value.okWide Try.prog W .any base 27 v) (h : DataW.Trod enc Try.prog W 0 sp hd 27 v d ps) : ∃ nm fk ev f ss, v = agF nm fk ev f ∧ Ss W ev ss := by
  obtain ⟨cs, rfl, hsz⟩ := okWide_struct Try.underlying27 hv
  obtain ⟨fuel, hf⟩ := h
  obtain ⟨ys, m, -, -, -, hys, hfs⟩ := DataW.trod_struct Try.underlying27 hf
  have k0 : Try.prog.cellsOf 27 = 8 := by kernel_rfl
  have k1 : Try.prog.cellsOf 9 = 1 := by kernel_rfl
  have k2 : Try.prog.cellsOf 3 = 1 := by kernel_rfl
  have k3 : Try.prog.cellsOf 25 = 1 := by kernel_rfl
  have k4 : Try.prog.cellsOf 24 = 5 := by kernel_rfl
  rw [k0] at hsz
  obtain ⟨l⟩ := cs
  match l, hsz with
  | [c0, c1, c2, c3, c4, c5, c6, c7], _ =>
    match ys, hys with
    | [y0, y1, y2, y3], _ =>
      have g0 := hfs 0 _ rfl
      have g1 := hfs 1 _ rfl
      have g2 := hfs 2 _ rfl
      have g3 := hfs 3 _ rfl
      simp [k1, k2, k3, k4, Value.cells] at g0 g1 g2 g3
      obtain ⟨z0, h0, -⟩ := DataW.trod_string Try.underlying9 g0
      obtain ⟨z1, h1, -, -⟩ := DataW.trod_int Try.underlying3 g1
      obtain ⟨ss, hs⟩ := open_texts g2
      obtain ⟨f, hfc, -⟩ := open_value5 g3 rfl
      simp at h0 h1 hfc
      obtain ⟨e3, e4, e5, e6, e7⟩ := hfc
      subst h0 h1 e3 e4 e5 e6 e7
      exact ⟨z0, z1, c2, f, ss, rfl, hs⟩
end
end Go.Proofs.Ytlnpolepgdoloaa
