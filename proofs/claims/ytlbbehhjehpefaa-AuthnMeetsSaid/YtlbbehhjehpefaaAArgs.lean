/- Layer 3: the laws' arguments, opened. -/
import Derived.Test.YtlbbehhjehpefaaADeed
import Derived.Test.YtlbbehhjehpefaaACount
namespace Go.Proofs.Ytlbbehhjehpefaa
open Go.RowKit Go.ChangeShapes Go.WideShapes Go.ChangeAt
set_option linter.unusedVariables false

section
variable {H : Type} {enc : TypeId × Value → H} {W : World} {sp : Nat → Bool} {hd : Bool} {base : Nat} {v : Value} {d : DataW H} {ps : List MemPlace}

theorem ok64_of {n : Int} (h : (Lit.int .i64 n).wf = true) : ok64 n := by
  simp [Lit.wf, IntKind.min, IntKind.max, IntKind.signed, IntKind.bits] at h
  unfold ok64
  omega

theorem open_num (hv : Value.okWide Try.prog W .any base 3 v) (h : DataW.Trod enc Try.prog W 0 sp hd 3 v d ps) : ∃ n : Int, v = .int .i64 n ∧ ok64 n := by
  obtain ⟨n, rfl, -, -, hw⟩ := open_int Try.underlying3 hv h
  exact ⟨n, rfl, ok64_of hw⟩

theorem open_size (hv : Value.okWide Try.prog W .any base 23 v) (h : DataW.Trod enc Try.prog W 0 sp hd 23 v d ps) : ∃ F C : Int, v = .agg #[.int .i64 F, .int .i64 C] := by
  obtain ⟨cs, rfl, hsz⟩ := okWide_struct Try.underlying23 hv
  obtain ⟨fuel, hf⟩ := h
  obtain ⟨ys, m, -, -, -, hys, hfs⟩ := DataW.trod_struct Try.underlying23 hf
  have k0 : Try.prog.cellsOf 23 = 2 := by kernel_rfl
  have k1 : Try.prog.cellsOf 3 = 1 := by kernel_rfl
  rw [k0] at hsz
  obtain ⟨l⟩ := cs
  match l, hsz with
  | [c0, c1], _ =>
    match ys, hys with
    | [y0, y1], _ =>
      have g0 := hfs 0 _ rfl
      have g1 := hfs 1 _ rfl
      simp [k1, Value.cells] at g0 g1
      obtain ⟨z0, e0, -, -⟩ := DataW.trod_int Try.underlying3 g0
      obtain ⟨z1, e1, -, -⟩ := DataW.trod_int Try.underlying3 g1
      injection e0 with e0
      injection e1 with e1
      exact ⟨z0, z1, by rw [e0, e1]⟩

theorem open_nums (hv : Value.okWide Try.prog W .any base 50 v) (h : DataW.Trod enc Try.prog W 0 sp hd 50 v d ps) : ∃ l, Ns W v l := by
  obtain ⟨A, len, cap, rfl⟩ := okWide_slice Try.underlying50 hv
  obtain ⟨fuel, hf⟩ := h
  rcases DataW.trod_slice Try.underlying50 hf with ⟨hc, -⟩ | ⟨a, len', cap', elems, rest, n, -, hc, -, -, hl, hm, hel, hx, -, -⟩
  · simp [Value.cells] at hc
    obtain ⟨rfl, rfl, rfl⟩ := hc
    exact ⟨[], Ns.nil W⟩
  · simp [Value.cells] at hc
    obtain ⟨rfl, rfl, rfl⟩ := hc
    have hone : Try.prog.cellsOf 3 = 1 := by kernel_rfl
    have each : ∀ i, i < len → ∃ x : Int, W.cell? (a.add i) = some (.int .i64 x) := by
      intro i hi
      have h1 := hx i hi
      rw [hone, Nat.mul_one, List.getElem?_eq_getElem (by omega)] at h1
      obtain ⟨cs, hcs, ht⟩ := Option.bind_eq_some_iff.1 h1
      obtain ⟨-, hlen, hat⟩ := World.cells?_some hcs
      match cs, hlen with
      | [x], _ =>
        have h0 := hat 0 (by simp)
        rw [Addr.add_zero'] at h0
        obtain ⟨z, hz, -, -⟩ := DataW.trod_int Try.underlying3 ht
        injection hz with hz
        exact ⟨z, by rw [h0, hz]; rfl⟩
    have inst : Inhabited Int := ⟨0⟩
    obtain ⟨f, hf'⟩ := Deep.choose_lt each
    refine ⟨(List.range len).map f, some a, cap, by simp, by simpa using hl, hm, (by intro h; cases h), fun hne => ⟨a, rfl, ?_, ?_⟩⟩
    · have hpos : 0 < len := by
        rcases Nat.eq_zero_or_pos len with h0 | h0
        · subst h0; exact absurd rfl hne
        · exact h0
      have := cell_lt (hf' 0 hpos)
      rwa [block_add] at this
    · intro j u hj
      have hjl : j < len := by
        have := (List.getElem?_eq_some_iff.1 hj).1
        simpa using this
      simp [hjl, ic] at hj
      rw [← hj]
      exact hf' j hjl

theorem open_deed3 {m : Nat} {cs : List Value} {x : DataW H × List MemPlace} (ht : DataW.trod enc Try.prog W 0 sp hd m 36 cs = some x) (hlen : cs.length = 3) :
    ∃ (y : Dd) (bv : Value), cs = [.int .i64 y.s, bv, .bool y.ask] ∧ Bs W bv y.l ∧ ok64 y.s := by
  obtain ⟨ys, m, -, -, -, hys, hfs⟩ := DataW.trod_struct Try.underlying36 ht
  match cs, hlen with
  | [c0, c1, c2], _ =>
    match ys, hys with
    | [y0, y1, y2], _ =>
      have k1 : Try.prog.cellsOf 3 = 1 := by kernel_rfl
      have k2 : Try.prog.cellsOf 34 = 1 := by kernel_rfl
      have k3 : Try.prog.cellsOf 4 = 1 := by kernel_rfl
      have g0 := hfs 0 _ rfl
      have g1 := hfs 1 _ rfl
      have g2 := hfs 2 _ rfl
      simp [k1, k2, k3] at g0 g1 g2
      obtain ⟨z0, hz0, -, w0⟩ := DataW.trod_int Try.underlying3 g0
      obtain ⟨l, hb⟩ := open_bytes g1
      obtain ⟨b, hz2, -⟩ := DataW.trod_bool Try.underlying4 g2
      simp at hz0 hz2
      subst hz0 hz2
      exact ⟨⟨z0, l, b⟩, c1, rfl, hb, ok64_of w0⟩

theorem open_deed (hv : Value.okWide Try.prog W .any base 36 v) (h : DataW.Trod enc Try.prog W 0 sp hd 36 v d ps) : ∃ (y : Dd) (bv : Value), v = .agg #[.int .i64 y.s, bv, .bool y.ask] ∧ Bs W bv y.l ∧ ok64 y.s := by
  obtain ⟨cs, rfl, hsz⟩ := okWide_struct Try.underlying36 hv
  obtain ⟨fuel, hf⟩ := h
  have k0 : Try.prog.cellsOf 36 = 3 := by kernel_rfl
  rw [k0] at hsz
  obtain ⟨y, bv, hc, hb, h64⟩ := open_deed3 hf (by simpa [Value.cells] using hsz)
  refine ⟨y, bv, ?_, hb, h64⟩
  obtain ⟨l⟩ := cs
  simp [Value.cells] at hc
  rw [hc]

theorem open_deeds (hv : Value.okWide Try.prog W .any base 32 v) (h : DataW.Trod enc Try.prog W 0 sp hd 32 v d ps) : ∃ ds, Ds W v ds := by
  obtain ⟨A, len, cap, rfl⟩ := okWide_slice Try.underlying32 hv
  obtain ⟨fuel, hf⟩ := h
  rcases DataW.trod_slice Try.underlying32 hf with ⟨hc, -⟩ | ⟨a, len', cap', elems, rest, n, -, hc, -, -, hl, hm, hel, hx, -, -⟩
  · simp [Value.cells] at hc
    obtain ⟨rfl, rfl, rfl⟩ := hc
    exact ⟨[], none, 0, rfl, Nat.le_refl _, Nat.zero_le _, fun k hk => by simp at hk⟩
  · simp [Value.cells] at hc
    obtain ⟨rfl, rfl, rfl⟩ := hc
    have hthree : Try.prog.cellsOf 36 = 3 := by kernel_rfl
    have each : ∀ i, i < len → ∃ y : Dd, ∃ bv, W.cell? (a.add (i * 3)) = some (.int .i64 y.s) ∧ W.cell? ⟨(a.add (i * 3)).block, (a.add (i * 3)).off + 1, none⟩ = some bv ∧ W.cell? ⟨(a.add (i * 3)).block, (a.add (i * 3)).off + 2, none⟩ = some (.bool y.ask) ∧ Bs W bv y.l ∧ ok64 y.s := by
      intro i hi
      have h1 := hx i hi
      rw [hthree, List.getElem?_eq_getElem (by omega)] at h1
      obtain ⟨cs, hcs, ht⟩ := Option.bind_eq_some_iff.1 h1
      obtain ⟨-, hlen, hat⟩ := World.cells?_some hcs
      obtain ⟨y, bv, hc, hb, h64⟩ := open_deed3 ht hlen
      subst hc
      have e0 := hat 0 (by omega)
      have e1 := hat 1 (by omega)
      have e2 := hat 2 (by omega)
      exact ⟨y, bv, by simpa [Addr.add_zero'] using e0, by simpa [Addr.add_succ'] using e1, by simpa [Addr.add_succ'] using e2, hb, h64⟩
    have inst : Inhabited Dd := ⟨⟨0, [], false⟩⟩
    obtain ⟨f, hf'⟩ := Deep.choose_lt each
    refine ⟨(List.range len).map f, some a, cap, by simp, by simpa using hl, hm, fun k hk => ?_⟩
    have hkl : k < len := by simpa using hk
    obtain ⟨bv, h0, h1, h2, h3, h4⟩ := hf' k hkl
    have hb := cell_lt h0
    rw [block_add] at hb
    simp only [List.getElem_map, List.getElem_range]
    exact ⟨a, bv, rfl, hb, h0, h1, h2, h3, h4⟩
end
end Go.Proofs.Ytlbbehhjehpefaa
