/- rb: BMem LArgs LDef ANum ATab ASign ACheck AEnv ARef ARefS LMem LClone LRows Concat (made by shake.py). -/
import Derived.Maps.OwnSet
import Derived.DeepKeys4
import Derived.Deep.RegionHeld3
import Derived.Deep.QuietTactic
import Derived.BigQuiet
import Derived.Laws.ResultCell
import Derived.Laws.Rows
import Derived.Deep.RegionLaw
import Derived.Lib.AppendZeros
import Derived.Test.Ytggbopgchlgidaara
namespace Go.Proofs.Ytggbopgchlgidaa
open Go.RowKit Go.ChangeShapes Go.WideShapes Go.ChangeAt
set_option linter.unusedVariables false
set_option linter.unusedSimpArgs false
set_option maxRecDepth 20000

def EnvP (w : World) (p : Addr) (e : Int × List UInt8) : Prop := w.cell? p = some (.int .i64 e.1) ∧ ∃ bv, w.cell? ⟨p.block, p.off + 1, none⟩ = some bv ∧ Bs w bv e.2
def ResP (w : World) (p : Addr) (r : Int × Int) : Prop := w.cell? p = some (.int .i64 r.1) ∧ w.cell? ⟨p.block, p.off + 1, none⟩ = some (.int .i64 r.2)
abbrev EnvK (w : World) : Option Addr → Nat → List (Int × List UInt8) → Prop := RowM w 2 EnvP
abbrev ResK (w : World) : Option Addr → Nat → List (Int × Int) → Prop := RowM w 2 ResP
theorem EnvP.below {w w' : World} {p : Addr} {e : Int × List UInt8} (h : EnvP w p e) (hb : Below w.heap.size w w') (hl : p.block < w.heap.size) : EnvP w' p e := by
  obtain ⟨h1, bv, h2, h3⟩ := h
  exact ⟨cellM hb hl h1, bv, cellM (p := ⟨p.block, p.off + 1, none⟩) hb hl h2, h3.below hb (Nat.le_refl _)⟩
theorem EnvK.below {w w' : World} {A : Option Addr} {c : Nat} {l : List (Int × List UInt8)} (h : EnvK w A c l) (hb : Below w.heap.size w w') : EnvK w' A c l := RowM.below (fun p x hl h => EnvP.below h hb hl) h hb.size
theorem ResK.below {w w' : World} {A : Option Addr} {c : Nat} {l : List (Int × Int)} (h : ResK w A c l) (hb : Below w.heap.size w w') : ResK w' A c l := RowM.below (fun p x hl h => ⟨cellM hb hl h.1, cellM (p := ⟨p.block, p.off + 1, none⟩) hb hl h.2⟩) h hb.size
abbrev agB (b : Blk) (A : Option Addr) (c : Nat) (D : Option Addr) (d : Nat) : Value := .agg #[.int .i64 b.h, .string (strB b.prev), .slice A b.reqs.length c, .slice D b.ress.length d]
structure BlkK (w : World) (b : Blk) (A : Option Addr) (c : Nat) (D : Option Addr) (d : Nat) : Prop where
  q : EnvK w A c b.reqs
  r : ResK w D d b.ress
theorem BlkK.below {w w' : World} {b : Blk} {A : Option Addr} {c : Nat} {D : Option Addr} {d : Nat} (h : BlkK w b A c D d) (hb : Below w.heap.size w w') : BlkK w' b A c D d := ⟨h.q.below hb, h.r.below hb⟩
section
variable {H : Type} {enc : TypeId × Value → H} {W : World} {sp : Nat → Bool} {hd : Bool} {base : Nat} {v : Value} {d : DataW H} {ps : List MemPlace}
theorem part_env (n : Nat) (cs : List Value) (x : DataW H × List MemPlace) (p : Addr) (ht : DataW.trod enc Try.prog W 0 sp hd n 82 cs = some x) (hlen : cs.length = 2) (hat : ∀ i, i < 2 → W.cell? (p.add i) = cs[i]?) : ∃ z, EnvP W p z ∧ in64B z.1 := by
  obtain ⟨ys, m, -, -, -, hys, hfs⟩ := DataW.trod_struct Try.underlying82 ht
  match cs, hlen with
  | [c0, c1], _ =>
    match ys, hys with
    | [y0, y1], _ =>
      have k1 : Try.prog.cellsOf 3 = 1 := by kernel_rfl
      have k2 : Try.prog.cellsOf 58 = 1 := by kernel_rfl
      have g0 := hfs 0 _ rfl
      have g1 := hfs 1 _ rfl
      simp [k1, k2] at g0 g1
      obtain ⟨z0, e0, -, w0⟩ := DataW.trod_int Try.underlying3 g0
      obtain ⟨l, hb⟩ := open_bytes g1
      simp at e0
      subst e0
      have e0 := hat 0 (by omega)
      have e1 := hat 1 (by omega)
      exact ⟨(z0, l), ⟨by simpa [Addr.add_zero'] using e0, c1, by simpa [Addr.add_succ'] using e1, hb⟩, inM_of w0⟩
theorem part_res (n : Nat) (cs : List Value) (x : DataW H × List MemPlace) (p : Addr) (ht : DataW.trod enc Try.prog W 0 sp hd n 86 cs = some x) (hlen : cs.length = 2) (hat : ∀ i, i < 2 → W.cell? (p.add i) = cs[i]?) : ∃ z, ResP W p z ∧ (in64B z.1 ∧ in64B z.2) := by
  obtain ⟨ys, m, -, -, -, hys, hfs⟩ := DataW.trod_struct Try.underlying86 ht
  match cs, hlen with
  | [c0, c1], _ =>
    match ys, hys with
    | [y0, y1], _ =>
      have k1 : Try.prog.cellsOf 3 = 1 := by kernel_rfl
      have k2 : Try.prog.cellsOf 39 = 1 := by kernel_rfl
      have g0 := hfs 0 _ rfl
      have g1 := hfs 1 _ rfl
      simp [k1, k2] at g0 g1
      obtain ⟨z0, e0, -, w0⟩ := DataW.trod_int Try.underlying39 g0
      obtain ⟨z1, e1, -, w1⟩ := DataW.trod_int Try.underlying3 g1
      simp at e0 e1
      subst e0 e1
      have e0 := hat 0 (by omega)
      have e1 := hat 1 (by omega)
      exact ⟨(z0, z1), ⟨by simpa [Addr.add_zero'] using e0, by simpa [Addr.add_succ'] using e1⟩, inM_of w0, inM_of w1⟩
end
end Go.Proofs.Ytggbopgchlgidaa

namespace Go.Proofs.Ytggbopgchlgidaa
open Go.RowKit Go.ChangeShapes Go.WideShapes Go.ChangeAt
set_option linter.unusedVariables false
set_option linter.unusedSimpArgs false
set_option maxRecDepth 20000

def BlkAt (w : World) (p : Addr) (b : Blk) : Prop := ∃ A c D d, w.cell? p = some (.int .i64 b.h) ∧ w.cell? ⟨p.block, p.off + 1, none⟩ = some (.string (strB b.prev)) ∧ w.cell? ⟨p.block, p.off + 2, none⟩ = some (.slice A b.reqs.length c) ∧ w.cell? ⟨p.block, p.off + 3, none⟩ = some (.slice D b.ress.length d) ∧ BlkK w b A c D d
abbrev BlksK (w : World) : Option Addr → Nat → List Blk → Prop := RowM w 4 BlkAt
theorem blkAt_lt {w : World} {p : Addr} {b : Blk} (h : BlkAt w p b) : p.block < w.heap.size := by
  obtain ⟨_, _, _, _, h, -⟩ := h
  exact World.block_lt_of_cell? _ _ h
section
variable {H : Type} {enc : TypeId × Value → H} {W : World} {sp : Nat → Bool} {hd : Bool} {base : Nat} {v : Value} {d : DataW H} {ps : List MemPlace}
theorem part_blk (n : Nat) (cs : List Value) (x : DataW H × List MemPlace) (p : Addr) (ht : DataW.trod enc Try.prog W 0 sp hd n 33 cs = some x) (hlen : cs.length = 4) (hat : ∀ i, i < 4 → W.cell? (p.add i) = cs[i]?) : ∃ z, BlkAt W p z ∧ OkB z := by
  obtain ⟨ys, m, -, -, -, hys, hfs⟩ := DataW.trod_struct Try.underlying33 ht
  match cs, hlen with
  | [c0, c1, c2, c3], _ =>
    match ys, hys with
    | [y0, y1, y2, y3], _ =>
      have k1 : Try.prog.cellsOf 3 = 1 := by kernel_rfl
      have k2 : Try.prog.cellsOf 29 = 1 := by kernel_rfl
      have k3 : Try.prog.cellsOf 30 = 1 := by kernel_rfl
      have k4 : Try.prog.cellsOf 31 = 1 := by kernel_rfl
      have b0 := hfs 0 _ rfl
      have b1 := hfs 1 _ rfl
      have b2 := hfs 2 _ rfl
      have b3 := hfs 3 _ rfl
      simp [k1, k2, k3, k4] at b0 b1 b2 b3
      obtain ⟨zh, eh, -, wh⟩ := DataW.trod_int Try.underlying3 b0
      obtain ⟨zp, ep, -⟩ := DataW.trod_string Try.underlying29 b1
      obtain ⟨ql, QA, qc, eq, hq, hq2⟩ := row_ofM ⟨(0, [])⟩ EnvP (fun z => in64B z.1) Try.underlying30 (by kernel_rfl) (fun p x h => World.block_lt_of_cell? _ _ h.1) part_env b2
      obtain ⟨rl, RA, rc, er, hr, hr2⟩ := row_ofM ⟨(0, 0)⟩ ResP (fun z => in64B z.1 ∧ in64B z.2) Try.underlying31 (by kernel_rfl) (fun p x h => World.block_lt_of_cell? _ _ h.1) part_res b3
      simp at eh ep
      subst eh ep eq er
      have e0 := hat 0 (by omega)
      have e1 := hat 1 (by omega)
      have e2 := hat 2 (by omega)
      have e3 := hat 3 (by omega)
      refine ⟨⟨zh, zp.data.toList, ql, rl⟩, ⟨QA, qc, RA, rc, by simpa [Addr.add_zero'] using e0, ?_, by simpa [Addr.add_succ'] using e2, by simpa [Addr.add_succ'] using e3, hq, hr⟩, inM_of wh, hq2, hr2⟩
      rw [← strB_of zp]
      simpa [Addr.add_succ'] using e1
theorem open_blks (hv : Value.okWide Try.prog W .any base 52 v) (h : DataW.Trod enc Try.prog W 0 sp hd 52 v d ps) : ∃ l A c, v = .slice A l.length c ∧ BlksK W A c l ∧ ∀ a ∈ l, OkB a := by
  obtain ⟨A, len, cap, rfl⟩ := okWide_slice Try.underlying52 hv
  obtain ⟨fuel, hf⟩ := h
  obtain ⟨l, A2, c2, e, h1, h2⟩ := row_ofM (W := W) ⟨⟨0, [], [], []⟩⟩ BlkAt OkB Try.underlying52 (by kernel_rfl) (fun p x h => blkAt_lt h) part_blk (by simpa [Value.cells] using hf)
  exact ⟨l, A2, c2, e, h1, h2⟩
end
end Go.Proofs.Ytggbopgchlgidaa

namespace Go.Proofs.Ytggbopgchlgidaa
open Go.RowKit
set_option linter.unusedVariables false
set_option linter.unusedSimpArgs false
set_option maxRecDepth 20000

structure Ldg where
  base : Int
  dig : List UInt8
  bl : List Blk
def hdrL (b : Blk) : List UInt8 := digB b.h b.prev (leavesB b).length (rootB b)
def topL (L : Ldg) : Int := L.base + L.bl.length
def atL (L : Ldg) : Nat → List UInt8
  | 0 => L.dig
  | n + 1 => (L.bl[n]?.map hdrL).getD []
def headL (L : Ldg) : List UInt8 := atL L L.bl.length
def blk0 : Blk := ⟨0, [], [], []⟩
def appE (L : Ldg) (b : Blk) : Int := if checkB b ≠ 0 then checkB b else if b.h ≠ topL L + 1 then 100 else if b.prev ≠ headL L then 101 else 0
def appL (L : Ldg) (b : Blk) : Ldg := if appE L b = 0 then ⟨L.base, L.dig, L.bl ++ [b]⟩ else L
def cutE (L : Ldg) (h : Int) : Int := if h < L.base ∨ topL L < h then 2 else 0
def cutL (L : Ldg) (h : Int) : Ldg := if cutE L h = 0 then ⟨h, atL L (h - L.base).toNat, L.bl.drop (h - L.base).toNat⟩ else L
def blkE (L : Ldg) (h : Int) : Int := if h ≤ L.base ∨ topL L < h then 4 else 0
def blkL (L : Ldg) (h : Int) : Blk := if blkE L h = 0 then (L.bl[(h - L.base - 1).toNat]?).getD blk0 else blk0

theorem atL_succ {L : Ldg} {n : Nat} (h : n < L.bl.length) : atL L (n + 1) = hdrL L.bl[n] := by
  show (L.bl[n]?.map hdrL).getD [] = _
  rw [List.getElem?_eq_getElem h]
  rfl
theorem atL_nil {L : Ldg} : atL L 0 = L.dig := rfl
theorem atL_append (L : Ldg) (b : Blk) {n : Nat} (h : n ≤ L.bl.length) : atL ⟨L.base, L.dig, L.bl ++ [b]⟩ n = atL L n := by
  rcases n with _ | n
  · rfl
  · rw [atL_succ (L := L) h, atL_succ (L := ⟨L.base, L.dig, L.bl ++ [b]⟩) (by simp; omega)]
    simp only [List.getElem_append_left (show n < L.bl.length from h)]
structure GoodL (K : Nat) (L : Ldg) : Prop where
  b : 0 ≤ L.base ∧ topL L ≤ 1099511627776
  n : L.bl.length * 21000 ≤ K
  d : L.dig.length ≤ K
  q : ∀ x ∈ L.bl, FewQ x ∧ OkB x ∧ checkB x = 0 ∧ x.prev.length ≤ K ∧ (hdrL x).length ≤ K
theorem hdrL_len {b : Blk} (h : FewQ b) : (hdrL b).length ≤ b.prev.length + 20100 := by
  have h1 := h.root
  unfold hdrL digB
  rw [encT_length]
  simp [partsB, partB_length, i8B_length]
  omega
theorem GoodL.at {K : Nat} {L : Ldg} (h : GoodL K L) (n : Nat) : (atL L n).length ≤ K := by
  rcases n with _ | n
  · exact h.d
  · by_cases hn : n < L.bl.length
    · rw [atL_succ hn]
      exact (h.q _ (List.getElem_mem hn)).2.2.2.2
    · show ((L.bl[n]?.map hdrL).getD []).length ≤ K
      rw [List.getElem?_eq_none (Nat.le_of_not_lt hn)]
      exact Nat.zero_le _
theorem GoodL.head {K : Nat} {L : Ldg} (h : GoodL K L) : (headL L).length ≤ K := h.at _
theorem GoodL.mono {K K' : Nat} {L : Ldg} (h : GoodL K L) (hk : K ≤ K') : GoodL K' L :=
  ⟨h.b, Nat.le_trans h.n hk, Nat.le_trans h.d hk, fun x hx => by obtain ⟨h1, h2, h3, h4, h5⟩ := h.q x hx; exact ⟨h1, h2, h3, Nat.le_trans h4 hk, Nat.le_trans h5 hk⟩⟩
theorem appE_zero {L : Ldg} {b : Blk} (he : appE L b = 0) : checkB b = 0 ∧ b.h = topL L + 1 ∧ b.prev = headL L := by
  unfold appE at he
  by_cases h1 : checkB b ≠ 0
  · rw [if_pos h1] at he; exact absurd he h1
  rw [if_neg h1] at he
  by_cases h2 : b.h ≠ topL L + 1
  · rw [if_pos h2] at he; exact absurd he (by decide)
  rw [if_neg h2] at he
  by_cases h3 : b.prev ≠ headL L
  · rw [if_pos h3] at he; exact absurd he (by decide)
  exact ⟨Classical.not_not.1 h1, Classical.not_not.1 h2, Classical.not_not.1 h3⟩
theorem GoodL.app {K : Nat} {L : Ldg} (h : GoodL K L) {b : Blk} (hb : FewQ b) (ho : OkB b) : GoodL (K + 21000) (appL L b) := by
  unfold appL
  by_cases he : appE L b = 0
  · rw [if_pos he]
    obtain ⟨hc, ht, hp⟩ := appE_zero he
    have hl := h.head
    have hh := hdrL_len hb
    have hn := h.n
    have hd := h.d
    have hb1 := checkB_zero hc
    have hb2 := h.b
    rw [hp] at hh
    have hn' : (L.bl ++ [b]).length * 21000 ≤ K + 21000 := by rw [List.length_append, List.length_singleton, Nat.add_mul, Nat.one_mul]; exact Nat.add_le_add_right hn _
    refine ⟨⟨hb2.1, ?_⟩, hn', by simp only; omega, fun x hx => ?_⟩
    · unfold topL at ht ⊢
      simp only [List.length_append, List.length_singleton]
      omega
    rcases List.mem_append.1 hx with hx | hx
    · obtain ⟨h1, h2, h3, h4, h5⟩ := h.q x hx
      exact ⟨h1, h2, h3, by omega, by omega⟩
    · rw [List.mem_singleton.1 hx]
      exact ⟨hb, ho, hc, by rw [hp]; omega, by omega⟩
  · rw [if_neg he]
    exact h.mono (by omega)
theorem cutE_zero {L : Ldg} {x : Int} (h : cutE L x = 0) : ∃ k : Nat, k ≤ L.bl.length ∧ x = L.base + k ∧ cutL L x = ⟨L.base + k, atL L k, L.bl.drop k⟩ := by
  have h' := h
  unfold cutE at h'
  by_cases hx : x < L.base ∨ topL L < x
  · rw [if_pos hx] at h'; exact absurd h' (by decide)
  unfold topL at hx
  refine ⟨(x - L.base).toNat, by omega, by omega, ?_⟩
  unfold cutL
  rw [if_pos h, show L.base + ((x - L.base).toNat : Nat) = x by omega]
theorem cutL_no {L : Ldg} {x : Int} (h : cutE L x ≠ 0) : cutL L x = L := by unfold cutL; rw [if_neg h]
theorem appL_no {L : Ldg} {b : Blk} (h : appE L b ≠ 0) : appL L b = L := by unfold appL; rw [if_neg h]
theorem appL_yes {L : Ldg} {b : Blk} (h : appE L b = 0) : appL L b = ⟨L.base, L.dig, L.bl ++ [b]⟩ := by unfold appL; rw [if_pos h]
theorem GoodL.cut {K : Nat} {L : Ldg} (h : GoodL K L) (x : Int) : GoodL K (cutL L x) := by
  by_cases hx : cutE L x = 0
  · obtain ⟨k, hk, -, e⟩ := cutE_zero hx
    rw [e]
    have hb := h.b
    have hn := h.n
    unfold topL at hb
    have hm : (L.bl.length - k) * 21000 ≤ L.bl.length * 21000 := Nat.mul_le_mul_right _ (Nat.sub_le _ _)
    have hn' : (L.bl.drop k).length * 21000 ≤ K := by rw [List.length_drop]; exact Nat.le_trans hm hn
    refine ⟨⟨by simp only; omega, ?_⟩, hn', h.at k, fun y hy => h.q y (List.mem_of_mem_drop hy)⟩
    unfold topL
    simp only [List.length_drop]
    omega
  · rw [cutL_no hx]
    exact h

def Says (v : Value) (w : World) (e : Ending) (w' : World) : Prop := e = .returned v ∧ w' = w

section
variable {w : World} {g bm : Nat} {f c : Int} {v : Value}

end

/-! the document's -/
section
variable {w : World} {g : Nat} {f c : Int} {v : Value}
end

end Go.Proofs.Ytggbopgchlgidaa

namespace Go.Proofs.Ytggbopgchlgidaa
open Go.RowKit Go.Maps
set_option linter.unusedVariables false

end Go.Proofs.Ytggbopgchlgidaa

namespace Go.Proofs.Ytggbopgchlgidaa
open Go.RowKit
set_option linter.unusedVariables false
set_option linter.unusedSimpArgs false
set_option maxRecDepth 20000

section
variable {w w' : World} {g bm : Nat} {f c : Int} {L : List (Int × List UInt8)}
end

def Ev (w : World) (h : Nat) (x y : Value) : Prop := w.heap[h]? = some (.cells #[x, y] 82 (0, 0))
theorem Ev.open {w : World} {h : Nat} {x y : Value} (he : Ev w h x y) : w.cell? ⟨h, 0, none⟩ = some x ∧ w.cell? ⟨h, 1, none⟩ = some y ∧ w.frozen? ⟨h, 0, none⟩ = false ∧ w.frozen? ⟨h, 1, none⟩ = false ∧ h < w.heap.size :=
  ⟨(cell_of_row w h 0 _ _ (0, 0) he).trans rfl, (cell_of_row w h 1 _ _ (0, 0) he).trans rfl, by have he' : w.heap[h]? = _ := he; simp [World.frozen?, he'], by have he' : w.heap[h]? = _ := he; simp [World.frozen?, he'], (Array.getElem?_eq_some_iff.1 he).1⟩
theorem Ev.below {w w' : World} {h : Nat} {x y : Value} (he : Ev w h x y) (hb : Below w.heap.size w w') : Ev w' h x y := (hb.block h he.open.2.2.2.2).trans he
theorem Ev.kept {w w' : World} {h : Nat} {x y : Value} {row : Option Nat} (he : Ev w h x y) (hg : w.grownBy w' row) (hne : some h ≠ row) : Ev w' h x y := (hg.block h he.open.2.2.2.2 hne).trans he
def GivesO (w : World) (l : List UInt8) (e : Ending) (w' : World) : Prop := ∃ v', e = .returned v' ∧ w'.ownsRow w.heap.size 5 1 v' l.length (l.map bc) ∧ Below w.heap.size w w'
set_option maxHeartbeats 400000 in
theorem Clone_own (v : Value) (l : List UInt8) (w : World) (hv : Bs w v l) (hl : l.length ≤ 140737488355320) : Calls Try.prog 71 #[v] w (GivesO w l) := by
  obtain ⟨i0, hi, hz0, hz1, hz2⟩ := info_parts u8info
  obtain ⟨A, c, rfl, hc, hmx, hn, -⟩ := hv.open
  rcases A with _ | ad
  · have hc0 := hn rfl
    subst hc0
    have hl0 : l = [] := List.eq_nil_of_length_eq_zero (by omega)
    subst hl0
    clear hn hv
    have he := fun (w : World) => Lib.run_eql_slice_nil (P := Try.prog) w 58 5 none 0 0 0 0 Try.underlying58
    simp only [List.length_nil]
    go_enter Try.func71, Try.ntmps71
    go_wp2
    go_ret
    exact ⟨_, rfl, World.ownsRow_nil _ _ _ _, Below.refl _ _⟩
  · clear hn
    have hv' : Rd w (.slice (some ad) l.length c) (l.map bc) := hv
    have HV := Lib.hid hv'
    clear hv hv'
    have he := fun (w : World) => Lib.run_eql_slice_nil (P := Try.prog) w 58 5 (some ad) l.length c 0 0 Try.underlying58
    go_enter Try.func71, Try.ntmps71
    go_wp2_with (at_builtin; refine wpList_append_rd _ rfl _ _ 58 rfl w.heap.size 5 i0 (.int .u8 0) 1 Try.underlying58 hi hz0 hz1 hz2 rfl _ _ _ rfl (own_empty _ _ _ _ (by simp) (by simp)) _ _ rfl (Rd.below HV.out ((Below.refl w.heap.size w).alloc (Nat.le_refl _) _) (Nat.le_refl _)) (bc_one l) (by simp; unfold maxLen; omega) (by simp; omega) (by simp) ?_; intro v2 w2 hown2 hg2)
    go_ret
    refine ⟨_, rfl, by simpa using hown2, ?_⟩
    exact ((Below.refl w.heap.size w).alloc (Nat.le_refl _) _).grown hg2 (by simp) (by intro k h; injection h with h; simp only at h; omega)



theorem envinfo : (Try.prog.info? 82).map (fun i => (i.zero, i.size, i.bytes)) = some (some (.agg #[.int .i64 0, .slice none 0 0]), 2, 32) := by kernel_rfl

def flatE (xs : List (Int × Value)) : List Value := xs.flatMap fun p => [.int .i64 p.1, p.2]
theorem flatE_cons (p : Int × Value) (xs : List (Int × Value)) : flatE (p :: xs) = .int .i64 p.1 :: p.2 :: flatE xs := by simp [flatE]
theorem flatE_snoc (xs : List (Int × Value)) (p : Int × Value) : flatE (xs ++ [p]) = flatE xs ++ [.int .i64 p.1, p.2] := by simp [flatE]
theorem flatE_length (xs : List (Int × Value)) : (flatE xs).length = xs.length * 2 := by
  induction xs with
  | nil => rfl
  | cons p xs ih => rw [flatE_cons, List.length_cons, List.length_cons, List.length_cons, ih]; omega
theorem flatE_get (xs : List (Int × Value)) : ∀ (k : Nat) (hk : k < xs.length), (flatE xs)[k * 2]? = some (.int .i64 xs[k].1) ∧ (flatE xs)[k * 2 + 1]? = some xs[k].2 := by
  induction xs with
  | nil => intro k hk; simp at hk
  | cons p xs ih =>
    intro k hk
    rw [flatE_cons]
    match k with
    | 0 => simp
    | k + 1 =>
      have := ih k (by simpa using hk)
      rw [show (k + 1) * 2 = k * 2 + 1 + 1 by omega]
      simpa using this

def Es (w : World) (v : Value) (xs : List (Int × Value)) : Prop :=
  ∃ A c, v = .slice A xs.length c ∧ xs.length ≤ c ∧ c ≤ maxLen ∧ (A = none → c = 0) ∧ (xs ≠ [] → ∃ ad, A = some ad ∧ ad.block < w.heap.size ∧ ∀ k (hk : k < xs.length), w.cell? (ad.add (k * 2)) = some (.int .i64 xs[k].1) ∧ w.cell? ⟨(ad.add (k * 2)).block, (ad.add (k * 2)).off + 1, none⟩ = some xs[k].2)

theorem Es.of_own {w : World} {base : Nat} {v : Value} {n : Nat} {xs : List (Int × Value)} (h : w.ownsRow base 82 2 v n (flatE xs)) : Es w v xs := by
  have hl := h.1
  rw [flatE_length] at hl
  have hn : n = xs.length := by omega
  subst hn
  rcases h.2 with ⟨rfl, h0⟩ | ⟨g, cap, cur, rfl, _, hg, hc, hm, _⟩
  · have : xs = [] := List.eq_nil_of_length_eq_zero h0
    subst this
    exact ⟨none, 0, rfl, Nat.le_refl _, Nat.zero_le _, fun _ => rfl, fun h => absurd rfl h⟩
  · refine ⟨_, cap, rfl, hc, hm, (by intro h0; cases h0), fun _ => ⟨_, rfl, (Array.getElem?_eq_some_iff.1 hg).1, fun k hk => ?_⟩⟩
    obtain ⟨h1, h2⟩ := flatE_get xs k hk
    refine ⟨h.cells rfl _ _ h1, ?_⟩
    have h3 := h.cells rfl _ _ h2
    rwa [Addr.add_lit] at h3 ⊢

theorem own_keep {w w' : World} {B e sz n : Nat} {v : Value} {xs : List Value} (h : w.ownsRow B e sz v n xs) (hk : ∀ k, v.ownBlock = some k → w'.heap[k]? = w.heap[k]?) : w'.ownsRow B e sz v n xs := by
  obtain ⟨h1, h2⟩ := h
  refine ⟨h1, ?_⟩
  rcases h2 with h2 | ⟨g, cap, cur, rfl, hb, hg, hr⟩
  · exact .inl h2
  · exact .inr ⟨g, cap, cur, rfl, hb, (hk g rfl).trans hg, hr⟩
theorem Bs.keep {w w' : World} {v : Value} {l : List UInt8} (h : Bs w v l) (hs : w.heap.size ≤ w'.heap.size) (hk : l ≠ [] → ∀ k, v.ownBlock = some k → w'.heap[k]? = w.heap[k]?) : Bs w' v l := by
  obtain ⟨A, c, hv, hc, hm, hn, hx⟩ := h
  refine ⟨A, c, hv, hc, hm, hn, fun he => ?_⟩
  obtain ⟨ad, ha, hl, hr⟩ := hx he
  subst ha hv
  have hn' := hk (by rintro rfl; simp at he) ad.block rfl
  exact ⟨ad, rfl, Nat.lt_of_lt_of_le hl hs, fun j u hj => (World.cell?_of_block (by rw [block_add]; exact hn')).trans (hr j u hj)⟩
theorem Ty.keep {w w' : World} {v : Value} {l : List UInt8} (h : Ty w v l) (hk : l ≠ [] → ∀ k, v.ownBlock = some k → w'.heap[k]? = w.heap[k]?) : Ty w' v l := by
  intro hne k hk'
  obtain ⟨cs, fr, hg⟩ := h hne k hk'
  exact ⟨cs, fr, (hk hne k hk').trans hg⟩

abbrev Tri := Int × List UInt8 × Value
def flatT (E : List Tri) : List Value := flatE (E.map fun p => (p.1, p.2.2))
def pairsT (E : List Tri) : List (Int × List UInt8) := E.map fun p => (p.1, p.2.1)
theorem flatT_snoc (E : List Tri) (p : Tri) : flatT (E ++ [p]) = flatT E ++ [.int .i64 p.1, p.2.2] := by simp [flatT, flatE_snoc]

section
variable {w w' : World} {g : Nat} {f c : Int} {v : Value} {E : List Tri} {S : Nat → Prop}
end



structure Off (S : Nat → Prop) (w w' : World) : Prop where
  os : w'.os = w.os
  tape : w'.tape = w.tape
  output : w'.output = w.output
  size : w.heap.size ≤ w'.heap.size
  block : ∀ k, k < w.heap.size → ¬ S k → w'.heap[k]? = w.heap[k]?
theorem Off.of_below {S : Nat → Prop} {w w' : World} (h : Below w.heap.size w w') : Off S w w' := ⟨h.os, h.tape, h.output, h.size, fun k hk _ => h.block k hk⟩
theorem Off.of_grown {S : Nat → Prop} {w w' : World} {row : Option Nat} (h : w.grownBy w' row) (hS : ∀ k, row = some k → S k) : Off S w w' := ⟨h.os, h.tape, h.output, h.size, fun k hk hn => h.block k hk fun e => hn (hS k e.symm)⟩
theorem Off.trans {S : Nat → Prop} {w w1 w' : World} (h : Off S w w1) (h1 : Off S w1 w') : Off S w w' :=
  ⟨h1.os.trans h.os, h1.tape.trans h.tape, h1.output.trans h.output, Nat.le_trans h.size h1.size, fun k hk hn => (h1.block k (Nat.lt_of_lt_of_le hk h.size) hn).trans (h.block k hk hn)⟩

theorem own_slice {w : World} {B e sz n : Nat} {v : Value} {xs : List Value} (h : w.ownsRow B e sz v n xs) : ∃ A c, v = .slice A n c := by
  rcases h.2 with ⟨rfl, rfl⟩ | ⟨g, cap, cur, rfl, -⟩
  · exact ⟨none, 0, rfl⟩
  · exact ⟨_, cap, rfl⟩

abbrev KeptC (C C' : Nat → Prop) (w w' : World) : Prop := ∀ k, k < w.heap.size → C k → w'.heap[k]? = w.heap[k]? ∧ C' k
def RowC {α : Type} (C : Nat → Prop) (w : World) (K : Nat) (R : World → Addr → α → Prop) (A : Option Addr) (c : Nat) (l : List α) : Prop :=
  RowM w K R A c l ∧ (l ≠ [] → ∀ ad, A = some ad → C ad.block)
theorem RowC.keep {α : Type} {C C' : Nat → Prop} {w w' : World} {K : Nat} {R R' : World → Addr → α → Prop} {A : Option Addr} {c : Nat} {l : List α} (h : RowC C w K R A c l) (hz : w.heap.size ≤ w'.heap.size) (hk : KeptC C C' w w')
    (hR : ∀ (p : Addr) (x : α), p.block < w.heap.size → C p.block → R w p x → R' w' p x) : RowC C' w' K R' A c l := by
  obtain ⟨⟨h1, h2, h3, h4⟩, h5⟩ := h
  refine ⟨⟨h1, h2, h3, fun j hj => ?_⟩, fun hne ad ha => ?_⟩
  · obtain ⟨ad, e1, e2, e3⟩ := h4 j hj
    have hc := h5 (by intro e; rw [e] at hj; exact absurd hj (Nat.not_lt_zero _)) ad e1
    exact ⟨ad, e1, Nat.lt_of_lt_of_le e2 hz, hR _ _ (by rw [block_add]; exact e2) (by rw [block_add]; exact hc) e3⟩
  · obtain ⟨x, t, rfl⟩ := List.exists_cons_of_ne_nil hne
    obtain ⟨ad', e1, e2, -⟩ := h4 0 (by simp)
    rw [ha] at e1
    injection e1 with e1
    subst e1
    exact (hk _ e2 (h5 hne _ ha)).2
def EnvC (C : Nat → Prop) (w : World) (p : Addr) (e : Int × List UInt8) : Prop :=
  w.cell? p = some (.int .i64 e.1) ∧ ∃ bv, w.cell? ⟨p.block, p.off + 1, none⟩ = some bv ∧ Bs w bv e.2 ∧ (e.2 ≠ [] → ∀ k, bv.ownBlock = some k → C k)
theorem EnvC.p {C : Nat → Prop} {w : World} {p : Addr} {e : Int × List UInt8} (h : EnvC C w p e) : EnvP w p e := by
  obtain ⟨h1, bv, h2, h3, -⟩ := h
  exact ⟨h1, bv, h2, h3⟩
theorem EnvC.keep {C C' : Nat → Prop} {w w' : World} {p : Addr} {e : Int × List UInt8} (h : EnvC C w p e) (hz : w.heap.size ≤ w'.heap.size) (hk : KeptC C C' w w') (hl : p.block < w.heap.size) (hp : C p.block) : EnvC C' w' p e := by
  obtain ⟨h1, bv, h2, h3, h4⟩ := h
  refine ⟨(World.cell?_of_block (hk _ hl hp).1).trans h1, bv, (World.cell?_of_block (a := ⟨p.block, p.off + 1, none⟩) (hk _ hl hp).1).trans h2, h3.keep hz fun hne k e => (hk k (h3.lt hne k e) (h4 hne k e)).1, fun hne k e => (hk k (h3.lt hne k e) (h4 hne k e)).2⟩
structure BlkC (C : Nat → Prop) (w : World) (b : Blk) (A : Option Addr) (c : Nat) (D : Option Addr) (d : Nat) : Prop where
  q : RowC C w 2 (EnvC C) A c b.reqs
  r : RowC C w 2 ResP D d b.ress
theorem BlkC.keep {C C' : Nat → Prop} {w w' : World} {b : Blk} {A : Option Addr} {c : Nat} {D : Option Addr} {d : Nat} (h : BlkC C w b A c D d) (hz : w.heap.size ≤ w'.heap.size) (hk : KeptC C C' w w') : BlkC C' w' b A c D d :=
  ⟨h.q.keep hz hk fun p x hl hp hx => hx.keep hz hk hl hp, h.r.keep hz hk fun p x hl hp hx => ⟨(World.cell?_of_block (hk _ hl hp).1).trans hx.1, (World.cell?_of_block (a := ⟨p.block, p.off + 1, none⟩) (hk _ hl hp).1).trans hx.2⟩⟩
theorem RowM.to {α : Type} {w : World} {K : Nat} {R R' : World → Addr → α → Prop} {A : Option Addr} {c : Nat} {l : List α} (h : RowM w K R A c l) (hR : ∀ p x, R w p x → R' w p x) : RowM w K R' A c l := by
  obtain ⟨h1, h2, h3, h4⟩ := h
  refine ⟨h1, h2, h3, fun j hj => ?_⟩
  obtain ⟨ad, e1, e2, e3⟩ := h4 j hj
  exact ⟨ad, e1, e2, hR _ _ e3⟩
theorem BlkC.k {C : Nat → Prop} {w : World} {b : Blk} {A : Option Addr} {c : Nat} {D : Option Addr} {d : Nat} (h : BlkC C w b A c D d) : BlkK w b A c D d := ⟨h.q.1.to fun _ _ => EnvC.p, h.r.1⟩
structure KB where
  b : Blk
  A : Option Addr
  c : Nat
  D : Option Addr
  d : Nat
abbrev kbC (q : KB) : List Value := [.int .i64 q.b.h, .string (strB q.b.prev), .slice q.A q.b.reqs.length q.c, .slice q.D q.b.ress.length q.d]
structure LgR (cs : Ldg → Value → Array Value) (t : TypeId) (S : Nat → Prop) (w : World) (g : Nat) (L : Ldg) (v : Value) (qs : List KB) : Prop where
  bl : qs.map KB.b = L.bl
  head : w.heap[g]? = some (.cells (cs L v) t (0, 0))
  row : w.ownsRow 0 33 4 v qs.length (qs.flatMap kbC)
  blk : ∀ q ∈ qs, BlkC (fun k => S k ∧ k ≠ g ∧ v.ownBlock ≠ some k) w q.b q.A q.c q.D q.d
  at_g : S g
  at_v : ∀ k, v.ownBlock = some k → S k ∧ k ≠ g
section
variable {cs : Ldg → Value → Array Value} {t : TypeId} {S : Nat → Prop} {w w' : World} {g : Nat} {L : Ldg} {v : Value} {qs : List KB}
theorem LgR.lt (h : LgR cs t S w g L v qs) : g < w.heap.size := (Array.getElem?_eq_some_iff.1 h.head).1
theorem LgR.len (h : LgR cs t S w g L v qs) : qs.length = L.bl.length := by rw [← h.bl, List.length_map]
theorem LgR.keep {S' : Nat → Prop} (h : LgR cs t S w g L v qs) (hs : w.heap.size ≤ w'.heap.size) (hk : KeptC S S' w w') : LgR cs t S' w' g L v qs where
  bl := h.bl
  head := (hk g h.lt h.at_g).1.trans h.head
  row := own_keep h.row fun k hv => (hk k (h.row.lt k hv).2 (h.at_v k hv).1).1
  blk := fun q hq => (h.blk q hq).keep hs fun k hl hc => ⟨(hk k hl hc.1).1, (hk k hl hc.1).2, hc.2⟩
  at_g := (hk g h.lt h.at_g).2
  at_v := fun k hv => ⟨(hk k (h.row.lt k hv).2 (h.at_v k hv).1).2, (h.at_v k hv).2⟩
theorem LgR.below (h : LgR cs t S w g L v qs) (hb : Below w.heap.size w w') : LgR cs t S w' g L v qs := h.keep hb.size fun k hk hs => ⟨hb.block k hk, hs⟩
theorem LgR.mono {S' : Nat → Prop} (h : LgR cs t S w g L v qs) (hS : ∀ k, k < w.heap.size → S k → S' k) : LgR cs t S' w g L v qs := h.keep (Nat.le_refl _) fun k hk hs => ⟨rfl, hS k hk hs⟩
theorem LgR.open (h : LgR cs t S w g L v qs) : ∃ A cp, v = .slice A qs.length cp ∧ qs.length ≤ cp ∧ cp ≤ maxLen ∧
    ∀ j (hj : j < qs.length), ∃ ad, A = some ad ∧ w.cell? (ad.add (j * 4)) = some (.int .i64 qs[j].b.h) ∧ w.cell? ⟨(ad.add (j * 4)).block, (ad.add (j * 4)).off + 1, none⟩ = some (.string (strB qs[j].b.prev)) ∧
      w.cell? ⟨(ad.add (j * 4)).block, (ad.add (j * 4)).off + 2, none⟩ = some (.slice qs[j].A qs[j].b.reqs.length qs[j].c) ∧ w.cell? ⟨(ad.add (j * 4)).block, (ad.add (j * 4)).off + 3, none⟩ = some (.slice qs[j].D qs[j].b.ress.length qs[j].d) ∧ BlkK w qs[j].b qs[j].A qs[j].c qs[j].D qs[j].d := by
  obtain ⟨A, cp, rfl, h1, h2, -, h4⟩ := rowM_own kbC (fun _ => rfl) (by decide) (R := fun w p (q : KB) => w.cell? p = some (.int .i64 q.b.h) ∧ w.cell? ⟨p.block, p.off + 1, none⟩ = some (.string (strB q.b.prev)) ∧ w.cell? ⟨p.block, p.off + 2, none⟩ = some (.slice q.A q.b.reqs.length q.c) ∧ w.cell? ⟨p.block, p.off + 3, none⟩ = some (.slice q.D q.b.ress.length q.d)) h.row
    fun q _ b i hc => ⟨hc 0 (by decide), hc 1 (by decide), hc 2 (by decide), hc 3 (by decide)⟩
  refine ⟨A, cp, rfl, h1, h2, fun j hj => ?_⟩
  obtain ⟨ad, e1, -, e3⟩ := h4 j hj
  exact ⟨ad, e1, e3.1, e3.2.1, e3.2.2.1, e3.2.2.2, (h.blk _ (List.getElem_mem hj)).k⟩
theorem LgR.at (h : LgR cs t S w g L v qs) {j : Nat} (hj : j < qs.length) : ∃ h' : j < L.bl.length, qs[j].b = L.bl[j] := by
  refine ⟨by rw [← h.len]; exact hj, ?_⟩
  have := h.bl
  subst_vars
  simp only [← h.bl, List.getElem_map]
end
abbrev csLP (L : Ldg) (v : Value) : Array Value := #[.int .i64 L.base, .string (strB L.dig), v, .bool true]
abbrev LgP : (Nat → Prop) → World → Nat → Ldg → Value → List KB → Prop := LgR csLP 77

def ClR (t : TypeId) (K n : Nat) (cells : List Value) (w : World) (e : Ending) (w' : World) : Prop := ∃ v, e = .returned v ∧ w'.ownsRow w.heap.size t K v n cells ∧ Below w.heap.size w w'
theorem infoRs : (Try.prog.info? 86).map (fun i => (i.zero, i.size, i.bytes)) = some (some (.agg #[.int .i64 0, .int .i64 0]), 2, 16) := by kernel_rfl
theorem infoBk : (Try.prog.info? 33).map (fun i => (i.zero, i.size, i.bytes)) = some (some (.agg #[.int .i64 0, .string ⟨#[]⟩, .slice none 0 0, .slice none 0 0]), 4, 72) := by kernel_rfl
set_option maxHeartbeats 1000000 in
theorem cloneEv_any (A : Option Addr) (n c : Nat) (cells : List Value) (w : World) (hr : RowMs w 2 (.slice A n c) n cells) (h1 : ∀ u ∈ cells, u.oneCell' = true) (hl : n ≤ 1000000) : Calls Try.prog 69 #[.slice A n c] w (ClR 82 2 n cells w) := by
  obtain ⟨i1, hi1, hz1, hsz1, hby1⟩ := info_parts envinfo
  rcases A with _ | ad
  · obtain ⟨A', c', e, h2, h3, h4⟩ := hr
    injection e with e1 e2 e3
    obtain ⟨rfl, -⟩ := h3 e1.symm
    obtain rfl : cells = [] := List.eq_nil_of_length_eq_zero (by omega)
    clear h1 h2 h3 h4 e1 e2 e3 hl
    have he := fun (w : World) => Lib.run_eql_slice_nil (P := Try.prog) w 30 82 none 0 c 0 0 Try.underlying30
    go_enter Try.func69, Try.ntmps69
    go_wp2
    go_ret
    exact ⟨_, rfl, World.ownsRow_nil _ _ _ _, Below.refl _ _⟩
  · have HR := Lib.hid hr
    have HL := Lib.hid hl
    have H1 := Lib.hid h1
    clear hr hl h1
    have he := fun (w : World) => Lib.run_eql_slice_nil (P := Try.prog) w 30 82 (some ad) n c 0 0 Try.underlying30
    go_enter Try.func69, Try.ntmps69
    go_wp2_with (at_builtin; refine wpList_append_rowsM rfl (.tmp 5) (.tmp 6) 30 rfl w.heap.size 82 i1 (.agg #[.int .i64 0, .slice none 0 0]) 2 32 Try.underlying30 hi1 hz1 hsz1 hby1 rfl (by decide) _ 0 [] rfl (World.ownsRow_made w #[] 0 (Nat.le_refl _) (Nat.zero_le _) rfl) _ n cells rfl (HR.out.below ((Below.refl w.heap.size w).alloc (Nat.le_refl _) _)) H1.out (by have := HL.out; unfold maxLen; omega) (by have := HL.out; omega) (by simp) ?_; intro v2 w2 hown2 hg2 hor2)
    go_ret
    refine ⟨_, rfl, by simpa using hown2, ?_⟩
    exact ((Below.refl w.heap.size w).alloc (Nat.le_refl _) _).grown hg2 (by simp) (by intro k h; injection h with h; simp only at h; omega)
set_option maxHeartbeats 1000000 in
theorem cloneRs_any (A : Option Addr) (n c : Nat) (cells : List Value) (w : World) (hr : RowMs w 2 (.slice A n c) n cells) (h1 : ∀ u ∈ cells, u.oneCell' = true) (hl : n ≤ 1000000) : Calls Try.prog 70 #[.slice A n c] w (ClR 86 2 n cells w) := by
  obtain ⟨i1, hi1, hz1, hsz1, hby1⟩ := info_parts infoRs
  rcases A with _ | ad
  · obtain ⟨A', c', e, h2, h3, h4⟩ := hr
    injection e with e1 e2 e3
    obtain ⟨rfl, -⟩ := h3 e1.symm
    obtain rfl : cells = [] := List.eq_nil_of_length_eq_zero (by omega)
    clear h1 h2 h3 h4 e1 e2 e3 hl
    have he := fun (w : World) => Lib.run_eql_slice_nil (P := Try.prog) w 31 86 none 0 c 0 0 Try.underlying31
    go_enter Try.func70, Try.ntmps70
    go_wp2
    go_ret
    exact ⟨_, rfl, World.ownsRow_nil _ _ _ _, Below.refl _ _⟩
  · have HR := Lib.hid hr
    have HL := Lib.hid hl
    have H1 := Lib.hid h1
    clear hr hl h1
    have he := fun (w : World) => Lib.run_eql_slice_nil (P := Try.prog) w 31 86 (some ad) n c 0 0 Try.underlying31
    go_enter Try.func70, Try.ntmps70
    go_wp2_with (at_builtin; refine wpList_append_rowsM rfl (.tmp 5) (.tmp 6) 31 rfl w.heap.size 86 i1 (.agg #[.int .i64 0, .int .i64 0]) 2 16 Try.underlying31 hi1 hz1 hsz1 hby1 rfl (by decide) _ 0 [] rfl (World.ownsRow_made w #[] 0 (Nat.le_refl _) (Nat.zero_le _) rfl) _ n cells rfl (HR.out.below ((Below.refl w.heap.size w).alloc (Nat.le_refl _) _)) H1.out (by have := HL.out; unfold maxLen; omega) (by have := HL.out; omega) (by simp) ?_; intro v2 w2 hown2 hg2 hor2)
    go_ret
    refine ⟨_, rfl, by simpa using hown2, ?_⟩
    exact ((Below.refl w.heap.size w).alloc (Nat.le_refl _) _).grown hg2 (by simp) (by intro k h; injection h with h; simp only at h; omega)
set_option maxHeartbeats 1000000 in
theorem cloneBk_any (A : Option Addr) (n c : Nat) (cells : List Value) (w : World) (hr : RowMs w 4 (.slice A n c) n cells) (h1 : ∀ u ∈ cells, u.oneCell' = true) (hl : n ≤ 1000000) : Calls Try.prog 45 #[.slice A n c] w (ClR 33 4 n cells w) := by
  obtain ⟨i1, hi1, hz1, hsz1, hby1⟩ := info_parts infoBk
  rcases A with _ | ad
  · obtain ⟨A', c', e, h2, h3, h4⟩ := hr
    injection e with e1 e2 e3
    obtain ⟨rfl, -⟩ := h3 e1.symm
    obtain rfl : cells = [] := List.eq_nil_of_length_eq_zero (by omega)
    clear h1 h2 h3 h4 e1 e2 e3 hl
    have he := fun (w : World) => Lib.run_eql_slice_nil (P := Try.prog) w 52 33 none 0 c 0 0 Try.underlying52
    go_enter Try.func45, Try.ntmps45
    go_wp2
    go_ret
    exact ⟨_, rfl, World.ownsRow_nil _ _ _ _, Below.refl _ _⟩
  · have HR := Lib.hid hr
    have HL := Lib.hid hl
    have H1 := Lib.hid h1
    clear hr hl h1
    have he := fun (w : World) => Lib.run_eql_slice_nil (P := Try.prog) w 52 33 (some ad) n c 0 0 Try.underlying52
    go_enter Try.func45, Try.ntmps45
    go_wp2_with (at_builtin; refine wpList_append_rowsM rfl (.tmp 5) (.tmp 6) 52 rfl w.heap.size 33 i1 (.agg #[.int .i64 0, .string ⟨#[]⟩, .slice none 0 0, .slice none 0 0]) 4 72 Try.underlying52 hi1 hz1 hsz1 hby1 rfl (by decide) _ 0 [] rfl (World.ownsRow_made w #[] 0 (Nat.le_refl _) (Nat.zero_le _) rfl) _ n cells rfl (HR.out.below ((Below.refl w.heap.size w).alloc (Nat.le_refl _) _)) H1.out (by have := HL.out; unfold maxLen; omega) (by have := HL.out; omega) (by simp) ?_; intro v2 w2 hown2 hg2 hor2)
    go_ret
    refine ⟨_, rfl, by simpa using hown2, ?_⟩
    exact ((Below.refl w.heap.size w).alloc (Nat.le_refl _) _).grown hg2 (by simp) (by intro k h; injection h with h; simp only at h; omega)

theorem rowM_rows {α : Type} {w : World} {K : Nat} {R : World → Addr → α → Prop} (cells : α → List Value) (hK : ∀ x, (cells x).length = K) (hpos : 0 < K) {A : Option Addr} {c : Nat} {l : List α} (h : RowM w K R A c l)
    (hR : ∀ (p : Addr) (x : α), R w p x → ∀ o u, (cells x)[o]? = some u → w.cell? (p.add o) = some u) : RowMs w K (.slice A l.length c) l.length (l.flatMap cells) := by
  obtain ⟨h1, h2, h3, h4⟩ := h
  refine ⟨A, c, rfl, flatM_len cells K hK l, fun ha => by have := h3 ha; omega, fun a ha j u hj => ?_⟩
  have hjl : j < l.length * K := by
    have := (List.getElem?_eq_some_iff.1 hj).1
    rwa [flatM_len cells K hK l] at this
  have hq : j / K < l.length := Nat.div_lt_of_lt_mul (by rw [Nat.mul_comm]; exact hjl)
  have hdm : j / K * K + j % K = j := by rw [Nat.mul_comm]; exact Nat.div_add_mod j K
  rw [← hdm, flatM_get cells K hK l _ _ hq (Nat.mod_lt _ hpos)] at hj
  obtain ⟨ad, e1, -, e3⟩ := h4 _ hq
  rw [ha] at e1
  injection e1 with e1
  subst e1
  rw [← hdm, ← Addr.add_add]
  exact hR _ _ e3 _ _ hj
abbrev triC (p : Tri) : List Value := [.int .i64 p.1, p.2.2]
abbrev rsC (r : Int × Int) : List Value := [.int .i64 r.1, .int .i64 r.2]
theorem flatT_flat (E : List Tri) : flatT E = E.flatMap triC := by simp [flatT, flatE, List.flatMap_map]
theorem pairsT_len (E : List Tri) : (pairsT E).length = E.length := by simp [pairsT]
theorem env_tri {w : World} {A : Option Addr} {c : Nat} {l : List (Int × List UInt8)} (h : EnvK w A c l) : ∃ E : List Tri, pairsT E = l ∧ E.length = l.length ∧ RowMs w 2 (.slice A E.length c) E.length (flatT E) ∧ (∀ p ∈ E, Bs w p.2.2 p.2.1) := by
  obtain ⟨h1, h2, h3, h4⟩ := h
  have h5 : ∀ j : Fin l.length, ∃ bv, ∃ ad, A = some ad ∧ ad.block < w.heap.size ∧ w.cell? (ad.add (j * 2)) = some (.int .i64 l[j].1) ∧ w.cell? ⟨(ad.add (j * 2)).block, (ad.add (j * 2)).off + 1, none⟩ = some bv ∧ Bs w bv l[j].2 := fun j => by
    obtain ⟨ad, e1, e2, e3, bv, e4, e5⟩ := h4 j.1 j.2
    exact ⟨bv, ad, e1, e2, e3, e4, e5⟩
  have hl : (List.ofFn fun j : Fin l.length => ((l[j].1, l[j].2, Classical.choose (h5 j)) : Tri)).length = l.length := by simp
  refine ⟨List.ofFn fun j : Fin l.length => (l[j].1, l[j].2, Classical.choose (h5 j)), ?_, hl, ?_, fun p hp => ?_⟩
  · refine List.ext_getElem (by simp [pairsT]) fun j g1 g2 => ?_
    simp [pairsT]
  · rw [flatT_flat]
    refine rowM_rows triC (fun _ => rfl) (by decide) (R := fun w p (q : Tri) => w.cell? p = some (.int .i64 q.1) ∧ w.cell? ⟨p.block, p.off + 1, none⟩ = some q.2.2) ⟨by rw [hl]; exact h1, h2, h3, fun j hj => ?_⟩ fun p q hq o u hu => ?_
    · have hj' : j < l.length := by rw [hl] at hj; exact hj
      obtain ⟨ad, e1, e2, e3, e4, e5⟩ := Classical.choose_spec (h5 ⟨j, hj'⟩)
      refine ⟨ad, e1, e2, ?_, ?_⟩
      · simpa using e3
      · simpa using e4
    · match o, hu with
      | 0, hu => injection hu with hu; subst hu; rw [Addr.add_zero']; exact hq.1
      | 1, hu => injection hu with hu; subst hu; rw [Addr.add_succ']; exact hq.2
  · obtain ⟨j, hj, rfl⟩ := List.getElem_of_mem hp
    have hj' : j < l.length := by rw [hl] at hj; exact hj
    obtain ⟨ad, e1, e2, e3, e4, e5⟩ := Classical.choose_spec (h5 ⟨j, hj'⟩)
    simpa using e5
theorem res_rows {w : World} {A : Option Addr} {c : Nat} {l : List (Int × Int)} (h : ResK w A c l) : RowMs w 2 (.slice A l.length c) l.length (l.flatMap rsC) :=
  rowM_rows rsC (fun _ => rfl) (by decide) h fun p q hq o u hu => by
    match o, hu with
    | 0, hu => injection hu with hu; subst hu; rw [Addr.add_zero']; exact hq.1
    | 1, hu => injection hu with hu; subst hu; rw [Addr.add_succ']; exact hq.2
theorem rsC_one (l : List (Int × Int)) : ∀ u ∈ l.flatMap rsC, u.oneCell' = true := fun u hu => by
  obtain ⟨r, -, hr⟩ := List.mem_flatMap.1 hu
  simp only [rsC, List.mem_cons, List.not_mem_nil, or_false] at hr
  rcases hr with rfl | rfl <;> rfl
theorem triC_one {w : World} (E : List Tri) (h : ∀ p ∈ E, Bs w p.2.2 p.2.1) : ∀ u ∈ flatT E, u.oneCell' = true := fun u hu => by
  rw [flatT_flat] at hu
  obtain ⟨r, hE, hr⟩ := List.mem_flatMap.1 hu
  simp only [triC, List.mem_cons, List.not_mem_nil, or_false] at hr
  rcases hr with rfl | rfl
  · rfl
  · obtain ⟨A, c, e, -⟩ := (h r hE).open
    rw [e]
    rfl
theorem rowC_tri {C : Nat → Prop} {w : World} {base : Nat} {t : TypeId} {v : Value} {n : Nat} {E : List Tri} (h : w.ownsRow base t 2 v n (flatT E)) (hC : ∀ k, base ≤ k → C k) (hb : ∀ p ∈ E, Bs w p.2.2 p.2.1 ∧ (p.2.1 ≠ [] → ∀ k, p.2.2.ownBlock = some k → C k)) :
    ∃ A c, v = .slice A (pairsT E).length c ∧ RowC C w 2 (EnvC C) A c (pairsT E) := by
  have h0 := h
  rw [flatT_flat] at h
  obtain ⟨A, c, rfl, h1, h2, h3, h4⟩ := rowM_own triC (fun _ => rfl) (by decide) (R := fun w p (q : Tri) => w.cell? p = some (.int .i64 q.1) ∧ w.cell? ⟨p.block, p.off + 1, none⟩ = some q.2.2) h fun q _ b i hc => ⟨hc 0 (by decide), hc 1 (by decide)⟩
  refine ⟨A, c, by rw [pairsT_len], ⟨by rw [pairsT_len]; exact h1, h2, h3, fun j hj => ?_⟩, fun _ ad ha => ?_⟩
  · have hj' : j < E.length := by rw [pairsT_len] at hj; exact hj
    obtain ⟨ad, e1, e2, e3, e4⟩ := h4 j hj'
    obtain ⟨f1, f2⟩ := hb _ (List.getElem_mem hj')
    refine ⟨ad, e1, e2, ?_⟩
    simp only [pairsT, List.getElem_map]
    exact ⟨e3, _, e4, f1, f2⟩
  · subst ha
    exact hC _ (h0.lt ad.block rfl).1
theorem rowC_res {C : Nat → Prop} {w : World} {base : Nat} {t : TypeId} {v : Value} {n : Nat} {l : List (Int × Int)} (h : w.ownsRow base t 2 v n (l.flatMap rsC)) (hC : ∀ k, base ≤ k → C k) :
    ∃ A c, v = .slice A l.length c ∧ RowC C w 2 ResP A c l := by
  obtain ⟨A, c, rfl, h1⟩ := rowM_own rsC (fun _ => rfl) (by decide) (R := ResP) h fun q _ b i hc => ⟨hc 0 (by decide), hc 1 (by decide)⟩
  exact ⟨A, c, rfl, h1, fun _ ad ha => by subst ha; exact hC _ (h.lt ad.block rfl).1⟩
theorem flatT_set : ∀ (E : List Tri) (k : Nat) (hk : k < E.length) (y : Value), flatT (E.set k (E[k].1, E[k].2.1, y)) = (flatT E).set (k * 2 + 1) y
  | [], k, hk, _ => absurd hk (Nat.not_lt_zero _)
  | p :: E, 0, _, y => by simp [flatT, flatE]
  | p :: E, k + 1, hk, y => by
    have ih := flatT_set E k (by simpa using hk) y
    rw [show (k + 1) * 2 + 1 = k * 2 + 1 + 1 + 1 by omega]
    simp only [List.set_cons_succ, List.getElem_cons_succ]
    simp only [flatT, List.map_cons, flatE_cons, List.set_cons_succ] at ih ⊢
    rw [ih]
theorem pairsT_set (E : List Tri) (k : Nat) (hk : k < E.length) (y : Value) : pairsT (E.set k (E[k].1, E[k].2.1, y)) = pairsT E := by
  refine List.ext_getElem (by simp [pairsT]) fun j g1 g2 => ?_
  simp only [pairsT, List.getElem_map, List.getElem_set]
  by_cases h : k = j
  · subst h; simp
  · simp [h]
def TwB (b : Blk) (w : World) (e : Ending) (w' : World) : Prop := ∃ A c D d, e = .returned (agB b A c D d) ∧ BlkC (fun k => w.heap.size ≤ k) w' b A c D d ∧ Below w.heap.size w w'
theorem box_set2 {W : World} {N : Nat} {x0 x1 x2 x3 : Value} {t : TypeId} (h : W.heap[N]? = some (.cells #[x0, x1, x2, x3] t (0, 0))) (y2 y3 : Value) : ((W.setCell ⟨N, 2, none⟩ y2).setCell ⟨N, 3, none⟩ y3).heap[N]? = some (.cells #[x0, x1, y2, y3] t (0, 0)) := by
  simp [World.setCell, Array.getElem?_modify, h]

theorem own_bs {w : World} {B : Nat} {v : Value} {n : Nat} {l : List UInt8} (h : w.ownsRow B 5 1 v n (l.map bc)) : Bs w v l := Rd.of_own h
def AllBs (W : World) : List Value → List (List UInt8) → Prop
  | [], [] => True
  | x :: vs, l :: ls => Bs W x l ∧ AllBs W vs ls
  | _, _ => False
theorem AllBs.len {W : World} : ∀ {vs : List Value} {ls : List (List UInt8)}, AllBs W vs ls → vs.length = ls.length
  | [], [], _ => rfl
  | x :: vs, l :: ls, h => by rw [List.length_cons, List.length_cons, AllBs.len h.2]
theorem AllBs.at {W : World} : ∀ {vs : List Value} {ls : List (List UInt8)}, AllBs W vs ls → ∀ (k : Nat) (x : Value) (l : List UInt8), vs[k]? = some x → ls[k]? = some l → Bs W x l
  | x :: vs, l :: ls, h, 0, y, m, h1, h2 => by
    injection h1 with h1
    injection h2 with h2
    subst h1 h2
    exact h.1
  | x :: vs, l :: ls, h, k + 1, y, m, h1, h2 => AllBs.at h.2 k y m h1 h2

end Go.Proofs.Ytggbopgchlgidaa
