/- put: items, by the program and by the document. -/
import Derived.Test.YtlnpolepgdoloaaItems
import Derived.Deep.RegionHeld3
namespace Go.Proofs.Ytlnpolepgdoloaa
open Go.RowKit
set_option linter.unusedVariables false

/-- an item's bytes -/
def enc (i : Itm) : List UInt8 :=
  if i.kind = 0 then be 8 (w64 i.n) else if i.kind = 1 then be 1 (decide (0 < i.n)).toNat else if i.kind = 2 then be 4 (capC i.n).toNat
  else if i.kind = 3 then be 4 i.b.length ++ i.b else if i.kind = 4 then be 8 (numW i.x) else []
def encs (its : List Itm) : List UInt8 := its.flatMap enc

theorem enc_length (i : Itm) (h : i.b.length ≤ 2000) : (enc i).length ≤ 2004 := by
  unfold enc
  by_cases h0 : i.kind = 0
  · rw [if_pos h0, be_length]; omega
  rw [if_neg h0]
  by_cases h1 : i.kind = 1
  · rw [if_pos h1, be_length]; omega
  rw [if_neg h1]
  by_cases h2 : i.kind = 2
  · rw [if_pos h2, be_length]; omega
  rw [if_neg h2]
  by_cases h3 : i.kind = 3
  · rw [if_pos h3, List.length_append, be_length]; omega
  rw [if_neg h3]
  by_cases h4 : i.kind = 4
  · rw [if_pos h4, be_length]; omega
  rw [if_neg h4]
  exact Nat.zero_le _
theorem encs_length (its : List Itm) (h : ∀ i ∈ its, i.b.length ≤ 2000) : (encs its).length ≤ 2004 * its.length := by
  induction its with
  | nil => exact Nat.zero_le _
  | cons i its ih =>
    have h1 := enc_length i (h i (by simp))
    have h2 := ih (fun j hj => h j (by simp [hj]))
    simp only [encs, List.flatMap_cons, List.length_append, List.length_cons] at h2 ⊢
    omega
theorem encs_take (its : List Itm) (k : Nat) (h : k < its.length) : encs (its.take (k + 1)) = encs (its.take k) ++ enc its[k] := by
  unfold encs
  rw [List.take_succ_eq_append_getElem h, List.flatMap_append, List.flatMap_singleton]

theorem Itms.below {w w' : World} {v : Value} {its : List Itm} {B : Nat} (h : Itms w v its) (hb : Below B w w') (hB : w.heap.size ≤ B) : Itms w' v its := by
  obtain ⟨A, c, hv, hc, hm, hn, hx⟩ := h
  refine ⟨A, c, hv, hc, hm, hn, fun he => ?_⟩
  obtain ⟨ad, ha, hl, hr⟩ := hx he
  refine ⟨ad, ha, Nat.lt_of_lt_of_le hl hb.size, fun k i hk => ?_⟩
  obtain ⟨hok, bv, h0, h1, h2, h3, h4⟩ := hr k i hk
  have hblk : (ad.add (k * 4)).block < B := by rw [block_add]; omega
  exact ⟨hok, bv, (hb.cell hblk).trans h0, (hb.cell (p := ⟨_, _, none⟩) hblk).trans h1, (hb.cell (p := ⟨_, _, none⟩) hblk).trans h2, Rd.below h3 hb hB, (hb.cell (p := ⟨_, _, none⟩) hblk).trans h4⟩

theorem was_step {wr w2 : World} {y0 y1 y2 y3 : Value} {t e : TypeId} (hg : ((wr.alloc (.cells #[y0, y1, y2, y3] t)).alloc (.cells #[] e)).grownBy w2 (some (wr.heap.size + 1))) :
    Below wr.heap.size wr w2 ∧ w2.cell? ⟨wr.heap.size, 0, none⟩ = some y0 ∧ w2.cell? ⟨wr.heap.size, 1, none⟩ = some y1 ∧ w2.cell? ⟨wr.heap.size, 2, none⟩ = some y2 ∧ w2.cell? ⟨wr.heap.size, 3, none⟩ = some y3 ∧ wr.heap.size + 2 ≤ w2.heap.size := by
  have hc : ∀ j y, #[y0, y1, y2, y3][j]? = some y → w2.cell? ⟨wr.heap.size, j, none⟩ = some y := by
    intro j y hj
    refine hg.cell (a := ⟨wr.heap.size, j, none⟩) ?_ (by simp)
    rw [World.cell?_alloc_lt _ _ _ (by simp)]
    exact (cell_of_row _ _ j _ t (0, 0) (heap_alloc_new wr _)).trans hj
  refine ⟨?_, hc 0 y0 rfl, hc 1 y1 rfl, hc 2 y2 rfl, hc 3 y3 rfl, by have := hg.size; simpa using this⟩
  exact (((Below.refl wr.heap.size wr).alloc (Nat.le_refl _) _).alloc (by simp) _).grown hg (by simp; omega) (by intro k h; injection h with h; omega)

/-- what a round knows while both put -/
structure PK (wr : World) (va vb vw bv : Value) (pre bl : List UInt8) (W : World) : Prop where
  below : Below wr.heap.size wr W
  a : Bs W va pre
  b : Bs W vb pre
  was : Bs W vw pre
  bytes : Bs W bv bl
section
variable {wr W W' : World} {va vb vw bv : Value} {pre bl : List UInt8} {c : Prop}
theorem PK.drew (h : PK wr va vb vw bv pre bl W) : PK wr va vb vw bv pre bl W.drew := ⟨h.below.drew, h.a, h.b, h.was, h.bytes⟩
theorem PK.step (h : PK wr va vb vw bv pre bl W) (hb : Below W.heap.size W W') : PK wr va vb vw bv pre bl W' :=
  ⟨h.below.trans (hb.mono h.below.size), Rd.below h.a hb (Nat.le_refl _), Rd.below h.b hb (Nat.le_refl _), Rd.below h.was hb (Nat.le_refl _), Rd.below h.bytes hb (Nat.le_refl _)⟩
theorem PK.fa (h : PK wr va vb vw bv pre bl W ∧ c) : Bs W va pre := h.1.a
theorem PK.fb (h : PK wr va vb vw bv pre bl W ∧ c) : Bs W vb pre := h.1.b
theorem PK.fy (h : PK wr va vb vw bv pre bl W ∧ c) : Bs W bv bl := h.1.bytes
theorem PK.keep {a : Addr} {y : Value} (hb : Below W.heap.size W W') (h : PK wr va vb vw bv pre bl W ∧ W.cell? a = some y) : PK wr va vb vw bv pre bl W' ∧ W'.cell? a = some y :=
  ⟨h.1.step hb, (hb.cell (World.block_lt_of_cell? W a h.2)).trans h.2⟩
theorem PK.all (h : PK wr va vb vw bv pre bl W ∧ c) : Below wr.heap.size wr W ∧ Bs W va pre ∧ Bs W vw pre := ⟨h.1.below, h.1.a, h.1.was⟩
end
theorem Puts.bs' {w' : World} {v' : Value} {l : List UInt8} {n B : Nat} (h : w'.ownsRow B 5 1 v' n (l.map bc)) : Bs w' v' l := Rd.of_own h

theorem Same_yes (v y : Value) (l : List UInt8) (w : World) (hv : Bs w v l) (hy : Bs w y l) :
    Calls Try.prog 35 #[v, y] w fun e w' => e = .returned (.bool true) ∧ w = w' :=
  (Same_any v y l l w hv hy).mono fun e w' h => ⟨by rw [h.1]; exact ret_bool (by simp), h.2⟩

def PutDone (its : List Itm) (w : World) (e : Ending) (w' : World) : Prop :=
  ∃ va vb, e = .returned (.tuple #[va, vb, .bool true]) ∧ Bs w' va (encs its) ∧ Bs w' vb (encs its) ∧ Below w.heap.size w w'

end Go.Proofs.Ytlnpolepgdoloaa
