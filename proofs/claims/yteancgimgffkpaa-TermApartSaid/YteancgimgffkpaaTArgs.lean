/- Layer 2: the laws' arguments, opened. -/
import Derived.Test.YteancgimgffkpaaOpen
import Derived.Test.YteancgimgffkpaaTLaws5
import Derived.OpenShut
import Derived.ChangeMaps5
namespace Go.Proofs.Yteancgimgffkpaa
open Go.RowKit Go.ChangeShapes Go.WideShapes Go.ChangeAt
set_option linter.unusedVariables false

section
variable {H : Type} {enc : TypeId × Value → H} {W : World} {sp : Nat → Bool} {hd : Bool} {base : Nat} {v : Value} {d : DataW H} {ps : List MemPlace}

theorem byte_of {n : Int} (h : (Lit.int .u8 n).wf = true) : ∃ t : UInt8, n = (t.toNat : Int) := by
  simp [Lit.wf, IntKind.min, IntKind.max, IntKind.signed, IntKind.bits] at h
  refine ⟨UInt8.ofNat n.toNat, ?_⟩
  rw [UInt8.toNat_ofNat']
  omega

theorem open_byte (hv : Value.okWide Try.prog W .any base 5 v) (h : DataW.Trod enc Try.prog W 0 sp hd 5 v d ps) : ∃ t : UInt8, v = .int .u8 (t.toNat : Int) := by
  obtain ⟨n, rfl, -, -, hw⟩ := open_int Try.underlying5 hv h
  obtain ⟨t, rfl⟩ := byte_of hw
  exact ⟨t, rfl⟩

theorem open_digest (hv : Value.okWide Try.prog W .any base 25 v) (h : DataW.Trod enc Try.prog W 0 sp hd 25 v d ps) : ∃ l, v = .string (strB l) := by
  obtain ⟨s, rfl, -⟩ := Go.ChangeMaps.open_string Try.underlying25 hv h
  exact ⟨s.data.toList, by rw [← strB_of s]⟩

theorem open_row (hv : Value.okWide Try.prog W .any base 31 v) (h : DataW.Trod enc Try.prog W 0 sp hd 31 v d ps) : ∃ l, Bs W v l := by
  obtain ⟨A, len, cap, rfl⟩ := okWide_slice Try.underlying31 hv
  obtain ⟨fuel, hf⟩ := h
  exact open_bytes (by simpa [Value.cells] using hf)

theorem open_rows (hv : Value.okWide Try.prog W .any base 22 v) (h : DataW.Trod enc Try.prog W 0 sp hd 22 v d ps) : ∃ ls, Bss W v ls := by
  obtain ⟨A, len, cap, rfl⟩ := okWide_slice Try.underlying22 hv
  obtain ⟨fuel, hf⟩ := h
  rcases DataW.trod_slice Try.underlying22 hf with ⟨hc, -⟩ | ⟨a, len', cap', elems, rest, n, -, hc, -, -, hl, hm, hel, hx, -, -⟩
  · simp [Value.cells] at hc
    obtain ⟨rfl, rfl, rfl⟩ := hc
    exact ⟨[], Bss.nil W⟩
  · simp [Value.cells] at hc
    obtain ⟨rfl, rfl, rfl⟩ := hc
    have hone : Try.prog.cellsOf 31 = 1 := by kernel_rfl
    have each : ∀ i, i < len → ∃ p : Value × List UInt8, W.cell? (a.add i) = some p.1 ∧ Bs W p.1 p.2 := by
      intro i hi
      have h1 := hx i hi
      rw [hone, Nat.mul_one, List.getElem?_eq_getElem (by omega)] at h1
      obtain ⟨cs, hcs, ht⟩ := Option.bind_eq_some_iff.1 h1
      obtain ⟨-, hlen, hat⟩ := World.cells?_some hcs
      match cs, hlen with
      | [x], _ =>
        have h0 := hat 0 (by simp)
        rw [Addr.add_zero'] at h0
        obtain ⟨l, hb⟩ := open_bytes ht
        exact ⟨(x, l), h0, hb⟩
    have inst : Inhabited (Value × List UInt8) := ⟨(.slice none 0 0, [])⟩
    obtain ⟨f, hf'⟩ := Deep.choose_lt each
    refine ⟨(List.range len).map fun i => (f i).2, (List.range len).map fun i => (f i).1, ⟨some a, cap, by simp, by simpa using hl, hm, (by intro h; cases h), fun hne => ⟨a, rfl, ?_, ?_⟩⟩, by simp, ?_⟩
    · have hpos : 0 < len := by
        rcases Nat.eq_zero_or_pos len with h0 | h0
        · subst h0; exact absurd rfl hne
        · exact h0
      have := cell_lt (hf' 0 hpos).1
      rwa [block_add] at this
    · intro j u hj
      have hjl : j < len := by
        have := (List.getElem?_eq_some_iff.1 hj).1
        simpa using this
      rw [(hf' j hjl).1]
      simp [hjl] at hj
      rw [hj]
    · intro k x l hx hl
      have hkl : k < len := by
        have := (List.getElem?_eq_some_iff.1 hx).1
        simpa using this
      simp [hkl] at hx hl
      rw [← hx, ← hl]
      exact (hf' k hkl).2

theorem okWide_two {t e : TypeId} (ht : Try.prog.underlying t = some (.array 2 e)) (hc : Try.prog.cellsOf t = 2) (h : Value.okWide Try.prog W .any base t v) : ∃ c0 c1, v = .agg #[c0, c1] := by
  simp only [Value.okWide, ht] at h
  obtain ⟨cs, h1, h2, _⟩ := h
  rw [hc] at h2
  obtain ⟨l⟩ := cs
  match l, h2 with
  | [c0, c1], _ => exact ⟨c0, c1, h1⟩

theorem open_two {t e : TypeId} (ht : Try.prog.underlying t = some (.array 2 e)) (hc : Try.prog.cellsOf t = 2) (hce : Try.prog.cellsOf e = 1) (hv : Value.okWide Try.prog W .any base t v) (h : DataW.Trod enc Try.prog W 0 sp hd t v d ps) :
    ∃ c0 c1 m x0 x1, v = .agg #[c0, c1] ∧ DataW.trod enc Try.prog W 0 sp hd m e [c0] = some x0 ∧ DataW.trod enc Try.prog W 0 sp hd m e [c1] = some x1 := by
  obtain ⟨c0, c1, rfl⟩ := okWide_two ht hc hv
  obtain ⟨fuel, hf⟩ := h
  obtain ⟨xs, m, -, -, -, hl, hx⟩ := DataW.trod_array ht hf
  match xs, hl with
  | [x0, x1], _ =>
    have g0 := hx 0 (by omega)
    have g1 := hx 1 (by omega)
    simp [hce, Value.cells] at g0 g1
    exact ⟨c0, c1, m, x0, x1, rfl, g0, g1⟩

theorem open_tags (hv : Value.okWide Try.prog W .any base 40 v) (h : DataW.Trod enc Try.prog W 0 sp hd 40 v d ps) : ∃ s t : UInt8, v = .agg #[.int .u8 (s.toNat : Int), .int .u8 (t.toNat : Int)] := by
  obtain ⟨c0, c1, m, x0, x1, rfl, g0, g1⟩ := open_two Try.underlying40 (by kernel_rfl) (by kernel_rfl) hv h
  obtain ⟨n0, e0, -, w0⟩ := DataW.trod_int Try.underlying5 g0
  obtain ⟨n1, e1, -, w1⟩ := DataW.trod_int Try.underlying5 g1
  obtain ⟨s, rfl⟩ := byte_of w0
  obtain ⟨t, rfl⟩ := byte_of w1
  injection e0 with e0
  injection e1 with e1
  exact ⟨s, t, by rw [e0, e1]⟩

theorem open_digests (hv : Value.okWide Try.prog W .any base 32 v) (h : DataW.Trod enc Try.prog W 0 sp hd 32 v d ps) : ∃ x y, v = .agg #[.string (strB x), .string (strB y)] := by
  obtain ⟨c0, c1, m, x0, x1, rfl, g0, g1⟩ := open_two Try.underlying32 (by kernel_rfl) (by kernel_rfl) hv h
  obtain ⟨s0, e0, -⟩ := DataW.trod_string Try.underlying25 g0
  obtain ⟨s1, e1, -⟩ := DataW.trod_string Try.underlying25 g1
  injection e0 with e0
  injection e1 with e1
  exact ⟨s0.data.toList, s1.data.toList, by rw [e0, e1, ← strB_of s0, ← strB_of s1]⟩
end
end Go.Proofs.Yteancgimgffkpaa
