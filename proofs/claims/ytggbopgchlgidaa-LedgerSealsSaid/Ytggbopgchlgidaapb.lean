/- pb: BMem LArgs BCode BGetD Concat Steps StoreRow Steps2 (made by shake.py). -/
import Derived.Lib.AppendZeros
import Derived.Deep.MidRow
import Derived.Test.Ytggbopgchlgidaapa
namespace Go.Proofs.Ytggbopgchlgidaa
open Go.RowKit Go.ChangeShapes Go.WideShapes Go.ChangeAt
set_option linter.unusedVariables false
set_option linter.unusedSimpArgs false
set_option maxRecDepth 20000

def EnvP (w : World) (p : Addr) (e : Int × List UInt8) : Prop := w.cell? p = some (.int .i64 e.1) ∧ ∃ bv, w.cell? ⟨p.block, p.off + 1, none⟩ = some bv ∧ Bs w bv e.2
def ResP (w : World) (p : Addr) (r : Int × Int) : Prop := w.cell? p = some (.int .i64 r.1) ∧ w.cell? ⟨p.block, p.off + 1, none⟩ = some (.int .i64 r.2)
abbrev EnvK (w : World) : Option Addr → Nat → List (Int × List UInt8) → Prop := RowM w 2 EnvP
abbrev ResK (w : World) : Option Addr → Nat → List (Int × Int) → Prop := RowM w 2 ResP
theorem EnvP.below {w w' : World} {p : Addr} {e : Int × List UInt8} (h : EnvP w p e) (hb : Below w.heap.size w w') (hl : p.block < w.heap.size) : EnvP w' p e := by
  obtain ⟨h1, bv, h2, h3⟩ := h
  exact ⟨cellM hb hl h1, bv, cellM (p := ⟨p.block, p.off + 1, none⟩) hb hl h2, h3.below hb (Nat.le_refl _)⟩
theorem EnvK.below {w w' : World} {A : Option Addr} {c : Nat} {l : List (Int × List UInt8)} (h : EnvK w A c l) (hb : Below w.heap.size w w') : EnvK w' A c l := RowM.below (fun p x hl h => EnvP.below h hb hl) h hb.size
theorem ResK.below {w w' : World} {A : Option Addr} {c : Nat} {l : List (Int × Int)} (h : ResK w A c l) (hb : Below w.heap.size w w') : ResK w' A c l := RowM.below (fun p x hl h => ⟨cellM hb hl h.1, cellM (p := ⟨p.block, p.off + 1, none⟩) hb hl h.2⟩) h hb.size
abbrev agB (b : Blk) (A : Option Addr) (c : Nat) (D : Option Addr) (d : Nat) : Value := .agg #[.int .i64 b.h, .string (strB b.prev), .slice A b.reqs.length c, .slice D b.ress.length d]
structure BlkK (w : World) (b : Blk) (A : Option Addr) (c : Nat) (D : Option Addr) (d : Nat) : Prop where
  q : EnvK w A c b.reqs
  r : ResK w D d b.ress
theorem BlkK.below {w w' : World} {b : Blk} {A : Option Addr} {c : Nat} {D : Option Addr} {d : Nat} (h : BlkK w b A c D d) (hb : Below w.heap.size w w') : BlkK w' b A c D d := ⟨h.q.below hb, h.r.below hb⟩
section
variable {H : Type} {enc : TypeId × Value → H} {W : World} {sp : Nat → Bool} {hd : Bool} {base : Nat} {v : Value} {d : DataW H} {ps : List MemPlace}
end
end Go.Proofs.Ytggbopgchlgidaa

namespace Go.Proofs.Ytggbopgchlgidaa
open Go.RowKit Go.ChangeShapes Go.WideShapes Go.ChangeAt
set_option linter.unusedVariables false
set_option linter.unusedSimpArgs false
set_option maxRecDepth 20000

section
variable {H : Type} {enc : TypeId × Value → H} {W : World} {sp : Nat → Bool} {hd : Bool} {base : Nat} {v : Value} {d : DataW H} {ps : List MemPlace}
theorem open_snap (hv : Value.okWide Try.prog W .any base 60 v) (h : DataW.Trod enc Try.prog W 0 sp hd 60 v d ps) : ∃ (hd : List UInt8) (sv : Value) (s : List UInt8), v = .agg #[.string (strB hd), sv] ∧ Bs W sv s := by
  obtain ⟨cs, rfl, hsz⟩ := okWide_struct Try.underlying60 hv
  obtain ⟨fuel, hf⟩ := h
  have k0 : Try.prog.cellsOf 60 = 2 := by kernel_rfl
  rw [k0] at hsz
  obtain ⟨ys, m, -, -, -, hys, hfs⟩ := DataW.trod_struct Try.underlying60 hf
  obtain ⟨l⟩ := cs
  match l, hsz with
  | [c0, c1], _ =>
    match ys, hys with
    | [y0, y1], _ =>
      have k1 : Try.prog.cellsOf 29 = 1 := by kernel_rfl
      have k2 : Try.prog.cellsOf 58 = 1 := by kernel_rfl
      have g0 := hfs 0 _ rfl
      have g1 := hfs 1 _ rfl
      simp [k1, k2, Value.cells] at g0 g1
      obtain ⟨z0, e0, -⟩ := DataW.trod_string Try.underlying29 g0
      obtain ⟨lb, hb⟩ := open_bytes g1
      simp at e0
      subst e0
      exact ⟨z0.data.toList, c1, lb, by rw [← strB_of z0], hb⟩
theorem open_ints2 (hv : Value.okWide Try.prog W .any base 67 v) (h : DataW.Trod enc Try.prog W 0 sp hd 67 v d ps) : ∃ m n : Int, v = .agg #[.int .i64 m, .int .i64 n] ∧ in64B m ∧ in64B n := by
  obtain ⟨c0, c1, m, x0, x1, rfl, g0, g1⟩ := open_two Try.underlying67 (by kernel_rfl) (by kernel_rfl) hv h
  obtain ⟨n0, e0, -, w0⟩ := DataW.trod_int Try.underlying3 g0
  obtain ⟨n1, e1, -, w1⟩ := DataW.trod_int Try.underlying3 g1
  injection e0 with e0
  injection e1 with e1
  exact ⟨n0, n1, by rw [e0, e1], inM_of w0, inM_of w1⟩
end
end Go.Proofs.Ytggbopgchlgidaa

namespace Go.Proofs.Ytggbopgchlgidaa
open Go.RowKit
set_option linter.unusedVariables false
set_option linter.unusedSimpArgs false
set_option maxRecDepth 20000

def int8F (rest : List UInt8) (e : Int) : Int × List UInt8 × Int := (wrap64 ((stepF 8 alInt rest e).1 : Int), (stepF 8 alInt rest e).2)
def itemF (rest : List UInt8) (e : Int) : ((Int × List UInt8) × (Int × Int)) × List UInt8 × Int :=
  let a := int8F rest e
  let b := bytesF 1099511627776 a.2.1 a.2.2
  let c := int8F b.2.1 b.2.2
  let d := int8F c.2.1 c.2.2
  (((a.1, b.1), (c.1, d.1)), d.2)
def itemsF : Nat → List UInt8 → Int → List ((Int × List UInt8) × (Int × Int)) × List UInt8 × Int
  | 0, rest, e => ([], rest, e)
  | n + 1, rest, e => let a := itemF rest e
    let l := itemsF n a.2.1 a.2.2
    (a.1 :: l.1, l.2)
def readB (rest : List UInt8) (e : Int) : Blk × List UInt8 × Int :=
  let a := int8F rest e
  let b := bytesF 1099511627776 a.2.1 a.2.2
  let n := stepF 4 (alCount 4) b.2.1 b.2.2
  let l := itemsF n.1 n.2.1 n.2.2
  (⟨a.1, b.1, l.1.map (·.1), l.1.map (·.2)⟩, l.2.1, endE l.2.1 l.2.2)
def gotB (x : List UInt8) : Prop := (readB x 0).2.2 = 0 ∧ checkB (readB x 0).1 = 0
instance (x : List UInt8) : Decidable (gotB x) := inferInstanceAs (Decidable (_ ∧ _))
/- forth -/
theorem int8F_put (n : Int) (h : in64B n) (rest : List UInt8) : int8F (i8B n ++ rest) 0 = (n, rest, 0) := by
  unfold int8F i8B
  rw [step_int, wrap_w64 n h.1 h.2]
theorem bytesF_put (l rest : List UInt8) (hl : l.length ≤ 100000) : bytesF 1099511627776 (partB l ++ rest) 0 = (l, rest, 0) := by
  have h4 : (partB l ++ rest).take 4 = be 4 l.length := by
    unfold partB
    rw [List.append_assoc, List.take_left' (be_length 4 _)]
  have h5 : (partB l ++ rest).drop 4 = l ++ rest := by
    unfold partB
    rw [List.append_assoc, List.drop_left' (be_length 4 _)]
  have hw : wordN (be 4 l.length) = l.length := wordN_be 4 _ (by omega)
  rw [bytesF_pass _ _ (by simp [partB_length]; omega) (by rw [h4, h5, hw]; simp) (Or.inr (by decide)), h4, h5, hw]
  simp
/- back -/
theorem stepF8_ok {al : Int → Int} {rest : List UInt8} {e : Int} {k : Nat} (h : (stepF k al rest e).2.2 = 0) : e = 0 ∧ k ≤ rest.length ∧ al (wordN (rest.take k)) = 0 ∧ stepF k al rest e = (wordN (rest.take k), rest.drop k, 0) := by
  unfold stepF at *
  by_cases h1 : e ≠ 0
  · rw [if_pos h1] at h; exact absurd h h1
  rw [if_neg h1] at *
  by_cases h2 : rest.length < k
  · rw [if_pos h2] at h; exact absurd (show (10 : Int) = 0 from h) (by decide)
  rw [if_neg h2] at *
  by_cases h3 : al (wordN (rest.take k)) ≠ 0
  · rw [if_pos h3] at h; exact absurd h h3
  rw [if_neg h3] at *
  exact ⟨Decidable.not_not.1 h1, by omega, Decidable.not_not.1 h3, rfl⟩
theorem w64_wrap (n : Nat) (h : n < 18446744073709551616) : w64 (wrap64 (n : Int)) = n := by
  have h0 := u64_0 (wrap64 (n : Int))
  unfold w64
  rw [IntKind.wrap_u64] at *
  unfold wrap64 at *
  omega
theorem int8F_ok {rest : List UInt8} {e : Int} (h : (int8F rest e).2.2 = 0) : e = 0 ∧ rest = i8B (int8F rest e).1 ++ (int8F rest e).2.1 := by
  obtain ⟨h0, h1, -, h2⟩ := stepF8_ok (show (stepF 8 alInt rest e).2.2 = 0 from h)
  refine ⟨h0, ?_⟩
  have hl : (rest.take 8).length = 8 := by simp; omega
  unfold int8F i8B
  rw [h2]
  simp only
  rw [w64_wrap _ (wordN_lt8 _ (by omega))]
  have := be_wordN (rest.take 8)
  rw [hl] at this
  rw [this, List.take_append_drop]
theorem bytesF_ok {rest : List UInt8} {e : Int} (h : (bytesF 1099511627776 rest e).2.2 = 0) : e = 0 ∧ rest = partB (bytesF 1099511627776 rest e).1 ++ (bytesF 1099511627776 rest e).2.1 := by
  by_cases h0 : (stepF 4 (alCount 1099511627776) rest e).2.2 = 0
  · obtain ⟨rfl, h1, -, -⟩ := stepF8_ok h0
    refine ⟨rfl, ?_⟩
    by_cases h2 : (rest.drop 4).length < wordN (rest.take 4)
    · exact absurd h (bytesF_fail _ _ (Or.inr h2))
    rw [bytesF_pass _ _ h1 (by omega) (Or.inr (by decide))]
    simp only
    have hl : ((rest.drop 4).take (wordN (rest.take 4))).length = wordN (rest.take 4) := by rw [List.length_take]; omega
    unfold partB
    rw [hl, be_take4 rest h1, List.append_assoc, List.take_append_drop, List.take_append_drop]
  · rw [bytesF_err _ _ _ h0] at h
    exact absurd h h0

def bytesL (rest : List UInt8) (e : Int) : List UInt8 × List UInt8 × Int := bytesF (rest.length : Nat) rest e
def itemL (rest : List UInt8) (e : Int) : ((Int × List UInt8) × (Int × Int)) × List UInt8 × Int :=
  let a := int8F rest e
  let b := bytesL a.2.1 a.2.2
  let c := int8F b.2.1 b.2.2
  let d := int8F c.2.1 c.2.2
  (((a.1, b.1), (c.1, d.1)), d.2)
def itemsL : Nat → List UInt8 → Int → List ((Int × List UInt8) × (Int × Int)) × List UInt8 × Int
  | 0, rest, e => ([], rest, e)
  | n + 1, rest, e => let a := itemL rest e
    let l := itemsL n a.2.1 a.2.2
    (a.1 :: l.1, l.2)
def readL (rest : List UInt8) (e : Int) : Blk × List UInt8 × Int :=
  let a := int8F rest e
  let b := bytesL a.2.1 a.2.2
  let n := stepF 4 (alCount 4) b.2.1 b.2.2
  let l := itemsL n.1 n.2.1 n.2.2
  (⟨a.1, b.1, l.1.map (·.1), l.1.map (·.2)⟩, l.2.1, endE l.2.1 l.2.2)
def gotL (x : List UInt8) : Prop := (readL x 0).2.2 = 0 ∧ checkB (readL x 0).1 = 0
instance (x : List UInt8) : Decidable (gotL x) := inferInstanceAs (Decidable (_ ∧ _))
/- forth -/
theorem bytesL_put (l rest : List UInt8) (hl : l.length ≤ 100000) : bytesL (partB l ++ rest) 0 = (l, rest, 0) := by
  have h4 : (partB l ++ rest).take 4 = be 4 l.length := by
    unfold partB
    rw [List.append_assoc, List.take_left' (be_length 4 _)]
  have h5 : (partB l ++ rest).drop 4 = l ++ rest := by
    unfold partB
    rw [List.append_assoc, List.drop_left' (be_length 4 _)]
  have hw : wordN (be 4 l.length) = l.length := wordN_be 4 _ (by omega)
  unfold bytesL
  rw [bytesF_pass _ _ (by simp [partB_length]; omega) (by rw [h4, h5, hw]; simp) (Or.inl (Int.le_refl _)), h4, h5, hw]
  simp
/- back -/
theorem bytesL_ok {rest : List UInt8} {e : Int} (h : (bytesL rest e).2.2 = 0) : e = 0 ∧ rest = partB (bytesL rest e).1 ++ (bytesL rest e).2.1 := by
  unfold bytesL at h ⊢
  by_cases h0 : (stepF 4 (alCount (rest.length : Nat)) rest e).2.2 = 0
  · obtain ⟨rfl, h1, -, -⟩ := stepF8_ok h0
    refine ⟨rfl, ?_⟩
    by_cases h2 : (rest.drop 4).length < wordN (rest.take 4)
    · exact absurd h (bytesF_fail _ _ (Or.inr h2))
    rw [bytesF_pass _ _ h1 (by omega) (Or.inl (Int.le_refl _))]
    simp only
    have hl : ((rest.drop 4).take (wordN (rest.take 4))).length = wordN (rest.take 4) := by rw [List.length_take]; omega
    unfold partB
    rw [hl, be_take4 rest h1, List.append_assoc, List.take_append_drop, List.take_append_drop]
  · rw [bytesF_err _ _ _ h0] at h
    exact absurd h h0

theorem own_bs {w : World} {B : Nat} {v : Value} {n : Nat} {l : List UInt8} (h : w.ownsRow B 5 1 v n (l.map bc)) : Bs w v l := Rd.of_own h
def AllBs (W : World) : List Value → List (List UInt8) → Prop
  | [], [] => True
  | x :: vs, l :: ls => Bs W x l ∧ AllBs W vs ls
  | _, _ => False
theorem AllBs.len {W : World} : ∀ {vs : List Value} {ls : List (List UInt8)}, AllBs W vs ls → vs.length = ls.length
  | [], [], _ => rfl
  | x :: vs, l :: ls, h => by rw [List.length_cons, List.length_cons, AllBs.len h.2]
theorem AllBs.at {W : World} : ∀ {vs : List Value} {ls : List (List UInt8)}, AllBs W vs ls → ∀ (k : Nat) (x : Value) (l : List UInt8), vs[k]? = some x → ls[k]? = some l → Bs W x l
  | x :: vs, l :: ls, h, 0, y, m, h1, h2 => by
    injection h1 with h1
    injection h2 with h2
    subst h1 h2
    exact h.1
  | x :: vs, l :: ls, h, k + 1, y, m, h1, h2 => AllBs.at h.2 k y m h1 h2

theorem step_conv {P : Program} {w : World} {ops : Array Oper} {o : Oper} {a : Act} {K : Act → World → Prop} {Q : Exit → Act → World → Prop} {E : Prop}
    (hgd : o.guard = none) (x : Operand) (src dst : TypeId) (ho : o.op = .convert src dst x) (u : TypeDesc) (hs : P.underlying src = some u) (hd : P.underlying dst = some (.slice 5)) (he : P.underlying 5 = some (.int .u8))
    (l : List UInt8) (hx : a.eval x = .string (strB l)) (hl : l.length ≤ maxLen)
    (h : ∀ A c w', Bs w' (.slice A l.length c) l → Below w.heap.size w w' → K (a.put o.dst (.slice A l.length c)) w') :
    if Region.wanted o (yielded ops a.tmps) = true then Oper.wp P o a w K Q else E := by
  have hw : Region.wanted o (yielded ops a.tmps) = true := by simp [Region.wanted, hgd]
  rw [if_pos hw]
  have hrun := Lib.run_convert_string_bytes (P := P) w src dst 5 (strB l) hs hd he
  rw [strB_size] at hrun
  unfold Oper.wp execOp
  simp only [ho, hx, hrun, Sem.run_bind, Sem.run_pure, Result.andThen_ok]
  exact h _ _ _ (bytesWorld_bsN w l hl _ _ rfl rfl) (bytesWorld_below w 5 (strB l))
theorem step_built {P : Program} {w : World} {ops : Array Oper} {o : Oper} {a : Act} {K : Act → World → Prop} {Q : Exit → Act → World → Prop} {E : Prop}
    (hgd : o.guard = none) (t : TypeId) (n : Nat) (ps : Array (Nat × Operand)) (ho : o.op = .buildSlice t n ps) (cs : Array Value) (e : TypeId)
    (hrun : ∀ W, (Instr.buildSlice t n (ps.map fun (i, x) => (i, a.eval x))).run P W = .ok (.slice (some ⟨W.heap.size, 0, none⟩) n n) (W.alloc (.cells cs e)))
    (h : ∀ g w', w'.heap[g]? = some (.cells cs e (0, 0)) → Below w.heap.size w w' → w.heap.size ≤ g → K (a.put o.dst (.slice (some ⟨g, 0, none⟩) n n)) w') :
    if Region.wanted o (yielded ops a.tmps) = true then Oper.wp P o a w K Q else E := by
  have hw : Region.wanted o (yielded ops a.tmps) = true := by simp [Region.wanted, hgd]
  rw [if_pos hw]
  unfold Oper.wp execOp
  simp only [ho, hrun, Sem.run_bind, Sem.run_pure, Result.andThen_ok]
  exact h _ _ (heap_alloc_new w _) ((Below.refl _ _).alloc (Nat.le_refl _) _) (Nat.le_refl _)
theorem wpAnyH_norm {P : Program} {md : Region.Mode} {ops : Array Oper} {Q : Exit → Act → World → Prop} {S : World → Prop} {fuel fuel' : Nat} {listed listed' : Array Bool} {a : Act} {w : World} (h1 : fuel = fuel') (h2 : listed = listed') (h : wpAnyH P md ops Q S fuel' listed' a w) : wpAnyH P md ops Q S fuel listed a w := by
  subst h1 h2
  exact h
theorem wpAnyH_name {P : Program} {md : Region.Mode} {ops : Array Oper} {Q : Exit → Act → World → Prop} {S : World → Prop} {fuel : Nat} {listed : Array Bool} {a : Act} {w : World} (h : ∀ G : Nat → Array Bool → Act → World → Prop, (∀ n l a w, G n l a w = wpAnyH P md ops Q S n l a w) → G fuel listed a w) : wpAnyH P md ops Q S fuel listed a w := h _ (fun _ _ _ _ => rfl)
theorem heapB {w w' : World} {g : Nat} {o : Obj} (h : w.heap[g]? = some o) (hb : Below w.heap.size w w') : w'.heap[g]? = some o := (hb.block g (Array.getElem?_eq_some_iff.1 h).1).trans h
theorem bss_heap {W : World} {g : Nat} {vs : List Value} {t : TypeId} (hg : W.heap[g]? = some (.cells vs.toArray t (0, 0))) (ls : List (List UInt8)) (n : Nat) (hn : n = ls.length) (hm : n ≤ 1000) (h : AllBs W vs ls) : Bss W (.slice (some ⟨g, 0, none⟩) n n) ls := by
  have hl := h.len
  refine ⟨vs, ⟨some ⟨g, 0, none⟩, n, by rw [hl, hn], by omega, by unfold maxLen; omega, (fun h => by cases h), fun _ => ⟨_, rfl, (Array.getElem?_eq_some_iff.1 hg).1, fun j u hj => ?_⟩⟩, hl, fun k x l hx hy => h.at k x l hx hy⟩
  rw [Addr.add_lit, Nat.zero_add]
  exact (cell_of_row W g j _ t (0, 0) hg).trans (by simpa using hj)





end Go.Proofs.Ytggbopgchlgidaa
