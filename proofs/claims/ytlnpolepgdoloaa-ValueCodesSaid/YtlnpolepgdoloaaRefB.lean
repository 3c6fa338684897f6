/- The document's reader: rows of bytes, and the end. -/
import Derived.Test.YtlnpolepgdoloaaRefR
import Derived.Deep.RegionHeld3
namespace Go.Proofs.Ytlnpolepgdoloaa
open Go.RowKit
set_option linter.unusedVariables false
set_option maxRecDepth 20000

/-- append to an owned row, as a step of a region that draws its order -/
theorem step_append_rd {P : Program} {w : World} {ops : Array Oper} {o : Oper} {a : Act} {K : Act → World → Prop} {Q : Exit → Act → World → Prop} {E : Prop}
    (hgd : o.guard = none) (s x : Operand) (t : TypeId)
    (ho : o.op = .call { callee := .builtin .append, args := #[s, x], argTypes := #[t, t] })
    (base : Nat) (e : TypeId) (i : TypeInfo) (z : Value) (bytes : Nat) (ht : P.underlying t = some (.slice e)) (hi : P.info? e = some i) (hz : i.zero = some z)
    (hsize : i.size = 1) (hby : i.bytes = bytes) (hzs : z.cells.size = 1)
    (v : Value) (n : Nat) (xs : List Value) (hs : a.eval s = v) (hown : w.ownsRow base e 1 v n xs)
    (y : Value) (news : List Value) (hx : a.eval x = y) (hr : Rd w y news) (h1 : ∀ u ∈ news, u.oneCell' = true)
    (h63 : n + news.length ≤ maxLen) (hbytes : (n + news.length) * bytes ≤ 140737488355328) (hbase : base ≤ w.heap.size)
    (h : ∀ v' w', w'.ownsRow base e 1 v' (n + news.length) (xs ++ news) → w.grownBy w' v.ownBlock → (v'.ownBlock = v.ownBlock ∨ v'.ownBlock = some w.heap.size) → K (a.put o.dst v') w') :
    if Region.wanted o (yielded ops a.tmps) = true then Oper.wp P o a w K Q else E := by
  have hw : Region.wanted o (yielded ops a.tmps) = true := by simp [Region.wanted, hgd]
  rw [if_pos hw]
  obtain ⟨v', w', hrun, h2, h3, h4⟩ := run_append_rd (P := P) w base t o.type e i z bytes ht hi hz hsize hby hzs v n xs hown y news hr h1 h63 hbytes hbase
  unfold Oper.wp execOp
  simp only [ho, resolve, invoke, builtin, Sem.run_bind, Sem.run_pure, Result.andThen_ok, List.map_toArray, List.map_cons, List.map_nil, hs, hx, hrun]
  exact h v' w' h2 h3 h4

theorem keep2 {w W W' : World} {h : Nat} {v0 v1 : Value} (hS : Below w.heap.size w W ∧ W.cell? ⟨h, 0, none⟩ = some v0 ∧ W.cell? ⟨h, 1, none⟩ = some v1) (hh : h < w.heap.size) (hb : Below w.heap.size W W') :
    Below w.heap.size w W' ∧ W'.cell? ⟨h, 0, none⟩ = some v0 ∧ W'.cell? ⟨h, 1, none⟩ = some v1 :=
  ⟨hS.1.trans hb, (hb.cell (p := ⟨h, 0, none⟩) hh).trans hS.2.1, (hb.cell (p := ⟨h, 1, none⟩) hh).trans hS.2.2⟩
theorem keep2_alloc {w W : World} {h : Nat} {v0 v1 : Value} {o : Obj} (hS : Below w.heap.size w W ∧ W.cell? ⟨h, 0, none⟩ = some v0 ∧ W.cell? ⟨h, 1, none⟩ = some v1) (hh : h < w.heap.size) :
    Below w.heap.size w (W.alloc o) ∧ (W.alloc o).cell? ⟨h, 0, none⟩ = some v0 ∧ (W.alloc o).cell? ⟨h, 1, none⟩ = some v1 :=
  keep2 hS hh ((Below.refl _ _).alloc hS.1.size o)

theorem cut_facts (i n L c : Nat) (h1 : i + n ≤ L) (h2 : L ≤ c) (h3 : L ≤ 1000000000000) : IntKind.i64.wrap ((i : Int) + n) = i + n ∧ (0 : Int) ≤ (i : Int) ∧ (i : Int) ≤ i + n ∧ (i : Int) + n ≤ (c : Int) := by
  refine ⟨?_, by omega, by omega, by omega⟩
  rw [IntKind.wrap_i64]
  omega

theorem run_cut (ad : Addr) (L c i n : Nat) (h : i + n ≤ c) (w : World) : (Instr.slice 42 (.slice (some ad) L c) (some (.int .i64 (i : Int))) (some (.int .i64 ((i : Int) + n))) none).run Try.prog w = .ok (.slice (some (if c = i then ad else ad.add i)) n (c - i)) w := by
  have hz : (sizeOf (Try.prog.elem 42)).run Try.prog w = .ok 1 w := by rfl
  have e : ((i : Int) + n).toNat - i = n := by omega
  rw [run_slice_lh (P := Try.prog) w 42 (some ad) L c Try.underlying42 .i64 .i64 i ((i : Int) + n) (by omega) (by omega) (by omega), hz]
  simp only [Result.andThen, sliced, Int.toNat_natCast, Nat.mul_one, e]
  by_cases hc : c = i
  · rw [if_pos hc, if_pos hc]
  · rw [if_neg hc, if_neg hc]; rfl

theorem cut_len (bs : List UInt8) (i n : Nat) (h : n ≤ bs.length - i) (h2 : i ≤ bs.length) (h3 : bs.length ≤ 1000000000000) : i + n ≤ bs.length ∧ ((bs.drop i).take n).length = n ∧ 0 + (((bs.drop i).take n).map bc).length ≤ maxLen ∧ (0 + (((bs.drop i).take n).map bc).length) * 1 ≤ 140737488355328 := by
  have e : ((bs.drop i).take n).length = n := by rw [List.length_take, List.length_drop]; omega
  rw [List.length_map, e]
  unfold maxLen
  refine ⟨by omega, rfl, by omega, by omega⟩

theorem RfG.keepBs {w : World} {h : Nat} {bs l : List UInt8} {i : Nat} {e : Int} {v : Value} (hr : RfG w h bs i e) (hv : Bs w v l) (j : Nat) (u : Value) : Bs (w.setCell ⟨h, j, none⟩ u) v l := by
  obtain ⟨bv, hh, hb, hi, hm⟩ := hr
  obtain ⟨A, c, rfl, -⟩ := hb.1.open
  exact hv.set hh (no_bytes3 _ _ _ _ _) _ _

theorem bytesF_err (most : Int) (rest : List UInt8) (e : Int) (h : (stepF 4 (alCount most) rest e).2.2 ≠ 0) : bytesF most rest e = ([], (stepF 4 (alCount most) rest e).2.1, (stepF 4 (alCount most) rest e).2.2) := by
  have key : stepF 4 (alBytes most rest) rest e = stepF 4 (alCount most) rest e ∧ (stepF 4 (alCount most) rest e).1 = 0 := by
    unfold stepF at h ⊢
    by_cases he : e ≠ 0
    · rw [if_pos he, if_pos he]; exact ⟨rfl, rfl⟩
    · rw [if_neg he] at h
      rw [if_neg he, if_neg he]
      by_cases hl : rest.length < 4
      · rw [if_pos hl, if_pos hl]; exact ⟨rfl, rfl⟩
      · rw [if_neg hl] at h
        rw [if_neg hl, if_neg hl]
        by_cases hc : alCount most (wordN (rest.take 4)) ≠ 0
        · have hc2 : alBytes most rest (wordN (rest.take 4)) = alCount most (wordN (rest.take 4)) := by
            unfold alBytes roomE alCount at *
            rw [if_neg hc]
          rw [hc2, if_pos hc]
          exact ⟨rfl, rfl⟩
        · rw [if_neg hc] at h
          exact absurd rfl h
  unfold bytesF
  rw [key.1, if_pos key.2]

theorem stepF_ok {al : Int → Int} {rest : List UInt8} {e : Int} (h : (stepF 4 al rest e).2.2 = 0) : e = 0 ∧ 4 ≤ rest.length ∧ al (wordN (rest.take 4)) = 0 ∧ stepF 4 al rest e = (wordN (rest.take 4), rest.drop 4, 0) := by
  unfold stepF at h ⊢
  by_cases he : e ≠ 0
  · rw [if_pos he] at h; exact absurd h he
  · rw [if_neg he] at h
    rw [if_neg he]
    by_cases hl : rest.length < 4
    · rw [if_pos hl] at h; cases h
    · rw [if_neg hl] at h
      rw [if_neg hl]
      by_cases hc : al (wordN (rest.take 4)) ≠ 0
      · rw [if_pos hc] at h; exact absurd h hc
      · rw [if_neg hc]
        exact ⟨Decidable.not_not.1 he, by omega, Decidable.not_not.1 hc, rfl⟩

theorem bytesF_short (most : Int) (rest : List UInt8) (h : (stepF 4 (alCount most) rest 0).2.2 = 0) (hn : rest.length - 4 < (stepF 4 (alCount most) rest 0).1) : bytesF most rest 0 = ([], rest, 10) := by
  obtain ⟨-, h4, hc, hs⟩ := stepF_ok h
  rw [hs] at hn
  have : stepF 4 (alBytes most rest) rest 0 = (0, rest, 10) := by
    have hc2 : alBytes most rest (wordN (rest.take 4)) = 10 := by
      unfold alBytes roomE alCount at *
      rw [if_pos hc, if_pos (by simp only at hn; omega)]
    unfold stepF
    rw [if_neg (by simp), if_neg (by omega), hc2, if_pos (by decide)]
  unfold bytesF
  rw [this, if_pos rfl]

theorem bytesF_good (most : Int) (rest : List UInt8) (h : (stepF 4 (alCount most) rest 0).2.2 = 0) (hn : (stepF 4 (alCount most) rest 0).1 ≤ rest.length - 4) :
    bytesF most rest 0 = ((rest.drop 4).take (stepF 4 (alCount most) rest 0).1, (rest.drop 4).drop (stepF 4 (alCount most) rest 0).1, 0) := by
  obtain ⟨-, h4, hc, hs⟩ := stepF_ok h
  rw [hs] at hn ⊢
  have hst : stepF 4 (alBytes most rest) rest 0 = (wordN (rest.take 4), rest.drop 4, 0) := by
    have hc2 : alBytes most rest (wordN (rest.take 4)) = 0 := by
      unfold alBytes roomE alCount at *
      rw [if_pos hc, if_neg (by simp only at hn; omega)]
    unfold stepF
    rw [if_neg (by simp), if_neg (by omega), hc2, if_neg (by simp)]
  unfold bytesF
  rw [hst]
  by_cases h0 : wordN (rest.take 4) = 0
  · simp only [h0, if_pos, List.take_zero, List.drop_zero]
  · rw [if_neg h0]

theorem RfS.mkq (W : World) (v : Value) (r : List UInt8) (hb : Bq W.heap.size W v r) (hl : r.length ≤ 1000000000000) (g : Nat) (hg : g = W.heap.size) : RfS (W.alloc (.cells #[v, .int .i64 0, .int .i64 0] 47)) g r 0 := by
  subst hg
  exact ⟨r, 0, ⟨v, heap_alloc_new _ _, hb.below ((Below.refl _ _).alloc (Nat.le_refl _) _) (Nat.le_refl _), Nat.zero_le _, hl⟩, rfl⟩
theorem RfS.mk (W : World) (v : Value) (r : List UInt8) (hb : Bt W v r) (hl : r.length ≤ 1000000000000) (g : Nat) (hg : g = W.heap.size) : RfS (W.alloc (.cells #[v, .int .i64 0, .int .i64 0] 47)) g r 0 :=
  RfS.mkq W v r hb.bq hl g hg
end Go.Proofs.Ytlnpolepgdoloaa
