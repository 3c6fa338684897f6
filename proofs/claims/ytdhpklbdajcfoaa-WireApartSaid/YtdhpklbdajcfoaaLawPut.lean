/- put: items, by the program and by the document. -/
import Derived.Test.YtdhpklbdajcfoaaItems
import Derived.Deep.RegionHeld3
namespace Go.Proofs.Ytdhpklbdajcfoaa
open Go.RowKit
set_option linter.unusedVariables false

/-- an item's bytes -/
def enc (i : Itm) : List UInt8 :=
  if i.kind = 0 then be 8 (w64 i.n) else if i.kind = 1 then be 1 (decide (0 < i.n)).toNat else if i.kind = 2 then be 4 (capC i.n).toNat
  else if i.kind = 3 then be 4 i.b.length ++ i.b else if i.kind = 4 then be 8 (numW i.x) else []
def encs (its : List Itm) : List UInt8 := its.flatMap enc

theorem enc_length (i : Itm) (h : i.b.length ≤ 2000) : (enc i).length ≤ 2004 := by
  unfold enc
  by_cases h0 : i.kind = 0
  · rw [if_pos h0, be_length]; omega
  rw [if_neg h0]
  by_cases h1 : i.kind = 1
  · rw [if_pos h1, be_length]; omega
  rw [if_neg h1]
  by_cases h2 : i.kind = 2
  · rw [if_pos h2, be_length]; omega
  rw [if_neg h2]
  by_cases h3 : i.kind = 3
  · rw [if_pos h3, List.length_append, be_length]; omega
  rw [if_neg h3]
  by_cases h4 : i.kind = 4
  · rw [if_pos h4, be_length]; omega
  rw [if_neg h4]
  exact Nat.zero_le _
theorem encs_length (its : List Itm) (h : ∀ i ∈ its, i.b.length ≤ 2000) : (encs its).length ≤ 2004 * its.length := by
  induction its with
  | nil => exact Nat.zero_le _
  | cons i its ih =>
    have h1 := enc_length i (h i (by simp))
    have h2 := ih (fun j hj => h j (by simp [hj]))
    simp only [encs, List.flatMap_cons, List.length_append, List.length_cons] at h2 ⊢
    omega
theorem encs_take (its : List Itm) (k : Nat) (h : k < its.length) : encs (its.take (k + 1)) = encs (its.take k) ++ enc its[k] := by
  unfold encs
  rw [List.take_succ_eq_append_getElem h, List.flatMap_append, List.flatMap_singleton]

theorem Itms.below {w w' : World} {v : Value} {its : List Itm} {B : Nat} (h : Itms w v its) (hb : Below B w w') (hB : w.heap.size ≤ B) : Itms w' v its := by
  obtain ⟨A, c, hv, hc, hm, hn, hx⟩ := h
  refine ⟨A, c, hv, hc, hm, hn, fun he => ?_⟩
  obtain ⟨ad, ha, hl, hr⟩ := hx he
  refine ⟨ad, ha, Nat.lt_of_lt_of_le hl hb.size, fun k i hk => ?_⟩
  obtain ⟨hok, bv, h0, h1, h2, h3, h4⟩ := hr k i hk
  have hblk : (ad.add (k * 4)).block < B := by rw [block_add]; omega
  exact ⟨hok, bv, (hb.cell hblk).trans h0, (hb.cell (p := ⟨_, _, none⟩) hblk).trans h1, (hb.cell (p := ⟨_, _, none⟩) hblk).trans h2, Rd.below h3 hb hB, (hb.cell (p := ⟨_, _, none⟩) hblk).trans h4⟩

theorem was_step {wr w2 : World} {y0 y1 y2 y3 : Value} {t e : TypeId} (hg : ((wr.alloc (.cells #[y0, y1, y2, y3] t)).alloc (.cells #[] e)).grownBy w2 (some (wr.heap.size + 1))) :
    Below wr.heap.size wr w2 ∧ w2.cell? ⟨wr.heap.size, 0, none⟩ = some y0 ∧ w2.cell? ⟨wr.heap.size, 1, none⟩ = some y1 ∧ w2.cell? ⟨wr.heap.size, 2, none⟩ = some y2 ∧ w2.cell? ⟨wr.heap.size, 3, none⟩ = some y3 ∧ wr.heap.size + 2 ≤ w2.heap.size := by
  have hc : ∀ j y, #[y0, y1, y2, y3][j]? = some y → w2.cell? ⟨wr.heap.size, j, none⟩ = some y := by
    intro j y hj
    refine hg.cell (a := ⟨wr.heap.size, j, none⟩) ?_ (by simp)
    rw [World.cell?_alloc_lt _ _ _ (by simp)]
    exact (cell_of_row _ _ j _ t (0, 0) (heap_alloc_new wr _)).trans hj
  refine ⟨?_, hc 0 y0 rfl, hc 1 y1 rfl, hc 2 y2 rfl, hc 3 y3 rfl, by have := hg.size; simpa using this⟩
  exact (((Below.refl wr.heap.size wr).alloc (Nat.le_refl _) _).alloc (by simp) _).grown hg (by simp; omega) (by intro k h; injection h with h; omega)

/-- what a round knows while both put -/
structure PK (wr : World) (va vb vw bv : Value) (pre bl : List UInt8) (W : World) : Prop where
  below : Below wr.heap.size wr W
  a : Bs W va pre
  b : Bs W vb pre
  was : Bs W vw pre
  bytes : Bs W bv bl
section
variable {wr W W' : World} {va vb vw bv : Value} {pre bl : List UInt8} {c : Prop}
theorem PK.drew (h : PK wr va vb vw bv pre bl W) : PK wr va vb vw bv pre bl W.drew := ⟨h.below.drew, h.a, h.b, h.was, h.bytes⟩
theorem PK.step (h : PK wr va vb vw bv pre bl W) (hb : Below W.heap.size W W') : PK wr va vb vw bv pre bl W' :=
  ⟨h.below.trans (hb.mono h.below.size), Rd.below h.a hb (Nat.le_refl _), Rd.below h.b hb (Nat.le_refl _), Rd.below h.was hb (Nat.le_refl _), Rd.below h.bytes hb (Nat.le_refl _)⟩
theorem PK.fa (h : PK wr va vb vw bv pre bl W ∧ c) : Bs W va pre := h.1.a
theorem PK.fb (h : PK wr va vb vw bv pre bl W ∧ c) : Bs W vb pre := h.1.b
theorem PK.fy (h : PK wr va vb vw bv pre bl W ∧ c) : Bs W bv bl := h.1.bytes
theorem PK.keep {a : Addr} {y : Value} (hb : Below W.heap.size W W') (h : PK wr va vb vw bv pre bl W ∧ W.cell? a = some y) : PK wr va vb vw bv pre bl W' ∧ W'.cell? a = some y :=
  ⟨h.1.step hb, (hb.cell (World.block_lt_of_cell? W a h.2)).trans h.2⟩
theorem PK.all (h : PK wr va vb vw bv pre bl W ∧ c) : Below wr.heap.size wr W ∧ Bs W va pre ∧ Bs W vw pre := ⟨h.1.below, h.1.a, h.1.was⟩
end
theorem Puts.bs' {w' : World} {v' : Value} {l : List UInt8} {n B : Nat} (h : w'.ownsRow B 5 1 v' n (l.map bc)) : Bs w' v' l := Rd.of_own h

theorem Same_yes (v y : Value) (l : List UInt8) (w : World) (hv : Bs w v l) (hy : Bs w y l) :
    Calls Try.prog 14 #[v, y] w fun e w' => e = .returned (.bool true) ∧ w = w' :=
  (Same_any v y l l w hv hy).mono fun e w' h => ⟨by rw [h.1]; exact ret_bool (by simp), h.2⟩

def PutDone (its : List Itm) (w : World) (e : Ending) (w' : World) : Prop :=
  ∃ va vb, e = .returned (.tuple #[va, vb, .bool true]) ∧ Bs w' va (encs its) ∧ Bs w' vb (encs its) ∧ Below w.heap.size w w'

set_option maxRecDepth 100000 in
set_option maxHeartbeats 1000000 in
theorem put_any (v : Value) (its : List Itm) (w : World) (hv : Itms w v its) (hfew : fewB its = true) :
    Calls Try.prog 8 #[v] w (PutDone its w) := by
  obtain ⟨i0, hi, hz0, hz1, hz2⟩ := info_parts u8info
  have hv' := hv
  obtain ⟨A, c, rfl, hc, hm, hn, hx⟩ := hv
  have hlen : its.length ≤ 200 := by simp [fewB] at hfew; exact hfew.1
  have hbl : ∀ i ∈ its, i.b.length ≤ 2000 := by simp [fewB] at hfew; exact hfew.2
  have HF := Lib.hid hfew
  have HV := Lib.hid hv'
  have HBL := Lib.hid hbl
  clear hfew hv' hbl hx
  have hsf := fun (w : World) (a : Addr) (m : Mode) (b : Nat) => run_store Try.prog w a (.float .f64 b) m rfl
  go_enter Try.func8, Try.ntmps8
  go_wp2
  go_loopw [5, 6, 7] (fun a b i wr => ∃ k : Nat, k ≤ its.length ∧ i = .int .i64 k ∧ Bs wr a (encs (its.take k)) ∧ Bs wr b (encs (its.take k)) ∧ Below w.heap.size w wr) (fun _ _ i _ => its.length - (intOf i).toNat)
  case atStart => exact ⟨0, Nat.zero_le _, rfl, Bs.nil w, Bs.nil w, Below.refl _ _⟩
  case round =>
    obtain ⟨k, hk, rfl, hba, hbb, hbel⟩ := hrel
    by_cases hlt : k < its.length
    · obtain ⟨ad, rfl, hbl, hat⟩ : ∃ ad, A = some ad ∧ ad.block < wr.heap.size ∧ ∀ k i, its[k]? = some i → ItmAt wr (ad.add (k * 4)) i := by
        obtain ⟨A', c', e, -, -, -, hx⟩ := Itms.below HV.out hbel (Nat.le_refl _)
        injection e with e; subst e
        exact hx (by rintro rfl; simp at hlt)
      obtain ⟨⟨-, -, ok3, ok4, ok5⟩, bv, h0, h1, h2, h3, h4⟩ := hat k its[k] (List.getElem?_eq_getElem hlt)
      have hEb := HBL.out _ (List.getElem_mem hlt)
      have hsv : ∀ (w : World) (a : Addr) (m : Mode), (store a bv m).run Try.prog w = stored Try.prog w a bv m := by
        obtain ⟨A2, c2, hA2, -, -, -, -⟩ := h3
        subst hA2
        exact fun w a m => run_store Try.prog w a _ m rfl
      have hEl := enc_length its[k] (HBL.out _ (List.getElem_mem _))
      have hEs := encs_length (its.take k) (fun i hi => HBL.out i (List.mem_of_mem_take hi))
      have HET := Lib.hid (encs_take its k hlt)
      have hPl : (encs (its.take k)).length ≤ 400800 := by have := List.length_take_le k its; omega
      clear hEs
      generalize its[k] = it at *
      generalize encs (its.take k) = pre at *
      obtain ⟨adk, hadk⟩ : ∃ adk, adk = ad.add (k * 4) := ⟨_, rfl⟩
      rw [← hadk] at h0 h1 h2 h4
      have HADK := Lib.hid hadk.symm
      clear hat hadk
      by_cases k0 : it.kind = 0
      · have hadk := HADK.out
        go_wp2_with (at_builtin; refine wpList_append_rd _ rfl _ _ 24 rfl wr.heap.size 5 i0 (.int .u8 0) 1 Try.underlying24 hi hz0 hz1 hz2 rfl _ _ _ rfl (own_empty _ _ _ _ (by simp) (by simp)) _ _ rfl (Rd.below hba (((Below.refl wr.heap.size wr).alloc (Nat.le_refl _) _).alloc (by simp) _) (Nat.le_refl _)) (bc_one pre) (by simp; unfold maxLen; omega) (by simp; omega) (by simp; omega) ?_; intro v2 w2 hown2 hg2; obtain ⟨hb2, hc0, hc1, hc2, hc3, hz⟩ := was_step hg2; clear hg2)
        have K0 := Lib.hid (show it.kind = 0 from k0)
        clear k0 hadk hsv hc0 hc2 hc3
        have hPK : PK wr u5 u6 v2 bv pre it.b w2 := ⟨hb2, Rd.below hba hb2 (Nat.le_refl _), Rd.below hbb hb2 (Nat.le_refl _), Puts.bs' (by simpa using hown2), Rd.below h3 hb2 (Nat.le_refl _)⟩
        clear hown2
        go_region_held3 (fun W => PK wr u5 u6 v2 bv pre it.b W ∧ W.cell? ⟨wr.heap.size, 1, none⟩ = some (.int .i64 it.n)) (first | exact ⟨hPK.drew, hc1⟩ | exact PK.keep (by assumption) (by assumption))
          (first
            | (go_at_call 23; refine (PutInt_any u5 pre _ _ (PK.fa (by assumption)) (by omega)).mono ?_; rintro e wA ⟨vA, rfl, hA0, hbA⟩; have hA := Puts.bs' hA0; clear hA0)
            | (go_at_call 24; refine (rInt_any u6 pre _ _ (PK.fb (by assumption)) (by omega)).mono ?_; rintro e wB ⟨vB, rfl, hB0, hbB⟩; have hB := Puts.bs' hB0; clear hB0))
        all_goals
          obtain ⟨hq1, hq2, hq3⟩ := PK.all (by assumption)
          first
            | (have hA2 := Rd.below hA hbB (Nat.le_refl _); have hB2 := hB)
            | (have hB2 := Rd.below hB hbA (Nat.le_refl _); have hA2 := hA)
          clear hA hB hbA hbB hPK
          go_wp2_with (go_at_call 14; refine (Same_yes _ _ _ _ (by assumption) (by assumption)).mono ?_; rintro e w' ⟨rfl, rfl⟩)
          go_roundw
          case rel => exact ⟨k + 1, by omega, by go_num, by rw [HET.out, show enc it = be 8 (w64 it.n) by simp [enc, K0.out]]; exact hA2, by rw [HET.out, show enc it = be 8 (w64 it.n) by simp [enc, K0.out]]; exact hB2, hbel.trans (hq1.mono hbel.size)⟩
          case measure => simp [intOf]; omega
      by_cases k1 : it.kind = 1
      · have hadk := HADK.out
        go_wp2_with (at_builtin; refine wpList_append_rd _ rfl _ _ 24 rfl wr.heap.size 5 i0 (.int .u8 0) 1 Try.underlying24 hi hz0 hz1 hz2 rfl _ _ _ rfl (own_empty _ _ _ _ (by simp) (by simp)) _ _ rfl (Rd.below hba (((Below.refl wr.heap.size wr).alloc (Nat.le_refl _) _).alloc (by simp) _) (Nat.le_refl _)) (bc_one pre) (by simp; unfold maxLen; omega) (by simp; omega) (by simp; omega) ?_; intro v2 w2 hown2 hg2; obtain ⟨hb2, hc0, hc1, hc2, hc3, hz⟩ := was_step hg2; clear hg2)
        have K0 := Lib.hid (show it.kind = 1 from k1)
        clear k1 hadk hsv hc0 hc2 hc3
        have hPK : PK wr u5 u6 v2 bv pre it.b w2 := ⟨hb2, Rd.below hba hb2 (Nat.le_refl _), Rd.below hbb hb2 (Nat.le_refl _), Puts.bs' (by simpa using hown2), Rd.below h3 hb2 (Nat.le_refl _)⟩
        clear hown2
        go_region_held3 (fun W => PK wr u5 u6 v2 bv pre it.b W ∧ W.cell? ⟨wr.heap.size, 1, none⟩ = some (.int .i64 it.n)) (first | exact ⟨hPK.drew, hc1⟩ | exact PK.keep (by assumption) (by assumption))
          (first
            | (go_at_call 25; refine (PutBool_any u5 pre _ _ (PK.fa (by assumption)) (by omega)).mono ?_; rintro e wA ⟨vA, rfl, hA0, hbA⟩; have hA := Puts.bs' hA0; clear hA0)
            | (go_at_call 26; refine (rBool_any u6 pre _ _ (PK.fb (by assumption)) (by omega)).mono ?_; rintro e wB ⟨vB, rfl, hB0, hbB⟩; have hB := Puts.bs' hB0; clear hB0))
        all_goals
          obtain ⟨hq1, hq2, hq3⟩ := PK.all (by assumption)
          first
            | (have hA2 := Rd.below hA hbB (Nat.le_refl _); have hB2 := hB)
            | (have hB2 := Rd.below hB hbA (Nat.le_refl _); have hA2 := hA)
          clear hA hB hbA hbB hPK
          go_wp2_with (go_at_call 14; refine (Same_yes _ _ _ _ (by assumption) (by assumption)).mono ?_; rintro e w' ⟨rfl, rfl⟩)
          go_roundw
          case rel => exact ⟨k + 1, by omega, by go_num, by rw [HET.out, show enc it = be 1 (decide (0 < it.n)).toNat by simp [enc, K0.out]]; exact hA2, by rw [HET.out, show enc it = be 1 (decide (0 < it.n)).toNat by simp [enc, K0.out]]; exact hB2, hbel.trans (hq1.mono hbel.size)⟩
          case measure => simp [intOf]; omega
      by_cases k2 : it.kind = 2
      · have hadk := HADK.out
        go_wp2_with (at_builtin; refine wpList_append_rd _ rfl _ _ 24 rfl wr.heap.size 5 i0 (.int .u8 0) 1 Try.underlying24 hi hz0 hz1 hz2 rfl _ _ _ rfl (own_empty _ _ _ _ (by simp) (by simp)) _ _ rfl (Rd.below hba (((Below.refl wr.heap.size wr).alloc (Nat.le_refl _) _).alloc (by simp) _) (Nat.le_refl _)) (bc_one pre) (by simp; unfold maxLen; omega) (by simp; omega) (by simp; omega) ?_; intro v2 w2 hown2 hg2; obtain ⟨hb2, hc0, hc1, hc2, hc3, hz⟩ := was_step hg2; clear hg2)
        have K0 := Lib.hid (show it.kind = 2 from k2)
        clear k2 hadk hsv hc0 hc2 hc3
        have hPK : PK wr u5 u6 v2 bv pre it.b w2 := ⟨hb2, Rd.below hba hb2 (Nat.le_refl _), Rd.below hbb hb2 (Nat.le_refl _), Puts.bs' (by simpa using hown2), Rd.below h3 hb2 (Nat.le_refl _)⟩
        clear hown2
        go_region_held3 (fun W => PK wr u5 u6 v2 bv pre it.b W ∧ W.cell? ⟨wr.heap.size, 1, none⟩ = some (.int .i64 it.n)) (first | exact ⟨hPK.drew, hc1⟩ | exact PK.keep (by assumption) (by assumption))
          (first
            | (go_at_call 27; refine (PutCount_any u5 pre it.n _ (PK.fa (by assumption)) (by omega) ok3 ok4).mono ?_; rintro e wA ⟨vA, rfl, hA0, hbA⟩; have hA := Puts.bs' hA0; clear hA0)
            | (go_at_call 28; refine (rCount_any u6 pre it.n _ (PK.fb (by assumption)) (by omega) ok3 ok4).mono ?_; rintro e wB ⟨vB, rfl, hB0, hbB⟩; have hB := Puts.bs' hB0; clear hB0))
        all_goals
          obtain ⟨hq1, hq2, hq3⟩ := PK.all (by assumption)
          first
            | (have hA2 := Rd.below hA hbB (Nat.le_refl _); have hB2 := hB)
            | (have hB2 := Rd.below hB hbA (Nat.le_refl _); have hA2 := hA)
          clear hA hB hbA hbB hPK
          go_wp2_with (go_at_call 14; refine (Same_yes _ _ _ _ (by assumption) (by assumption)).mono ?_; rintro e w' ⟨rfl, rfl⟩)
          go_roundw
          case rel => exact ⟨k + 1, by omega, by go_num, by rw [HET.out, show enc it = be 4 (capC it.n).toNat by simp [enc, K0.out]]; exact hA2, by rw [HET.out, show enc it = be 4 (capC it.n).toNat by simp [enc, K0.out]]; exact hB2, hbel.trans (hq1.mono hbel.size)⟩
          case measure => simp [intOf]; omega
      by_cases k3 : it.kind = 3
      · have hadk := HADK.out
        go_wp2_with (at_builtin; refine wpList_append_rd _ rfl _ _ 24 rfl wr.heap.size 5 i0 (.int .u8 0) 1 Try.underlying24 hi hz0 hz1 hz2 rfl _ _ _ rfl (own_empty _ _ _ _ (by simp) (by simp)) _ _ rfl (Rd.below hba (((Below.refl wr.heap.size wr).alloc (Nat.le_refl _) _).alloc (by simp) _) (Nat.le_refl _)) (bc_one pre) (by simp; unfold maxLen; omega) (by simp; omega) (by simp; omega) ?_; intro v2 w2 hown2 hg2; obtain ⟨hb2, hc0, hc1, hc2, hc3, hz⟩ := was_step hg2; clear hg2)
        have K0 := Lib.hid (show it.kind = 3 from k3)
        clear k3 hadk hsv hc0 hc1 hc3
        have hPK : PK wr u5 u6 v2 bv pre it.b w2 := ⟨hb2, Rd.below hba hb2 (Nat.le_refl _), Rd.below hbb hb2 (Nat.le_refl _), Puts.bs' (by simpa using hown2), Rd.below h3 hb2 (Nat.le_refl _)⟩
        clear hown2
        go_region_held3 (fun W => PK wr u5 u6 v2 bv pre it.b W ∧ W.cell? ⟨wr.heap.size, 2, none⟩ = some bv) (first | exact ⟨hPK.drew, hc2⟩ | exact PK.keep (by assumption) (by assumption))
          (first
            | (go_at_call 29; refine (PutBytes_any u5 bv pre it.b _ (PK.fa (by assumption)) (PK.fy (by assumption)) (by omega) (by omega)).mono ?_; rintro e wA ⟨vA, rfl, hA0, hbA⟩; have hA := Puts.bs' hA0; clear hA0)
            | (go_at_call 30; refine (rBytes_any u6 bv pre it.b _ (PK.fb (by assumption)) (PK.fy (by assumption)) (by omega) (by omega)).mono ?_; rintro e wB ⟨vB, rfl, hB0, hbB⟩; have hB := Puts.bs' hB0; clear hB0))
        all_goals
          obtain ⟨hq1, hq2, hq3⟩ := PK.all (by assumption)
          first
            | (have hA2 := Rd.below hA hbB (Nat.le_refl _); have hB2 := hB)
            | (have hB2 := Rd.below hB hbA (Nat.le_refl _); have hA2 := hA)
          clear hA hB hbA hbB hPK
          go_wp2_with (go_at_call 14; refine (Same_yes _ _ _ _ (by assumption) (by assumption)).mono ?_; rintro e w' ⟨rfl, rfl⟩)
          go_roundw
          case rel => exact ⟨k + 1, by omega, by go_num, by rw [HET.out, show enc it = be 4 it.b.length ++ it.b by simp [enc, K0.out], ← List.append_assoc]; exact hA2, by rw [HET.out, show enc it = be 4 it.b.length ++ it.b by simp [enc, K0.out], ← List.append_assoc]; exact hB2, hbel.trans (hq1.mono hbel.size)⟩
          case measure => simp [intOf]; omega
      by_cases k4 : it.kind = 4
      · have hadk := HADK.out
        go_wp2_with (at_builtin; refine wpList_append_rd _ rfl _ _ 24 rfl wr.heap.size 5 i0 (.int .u8 0) 1 Try.underlying24 hi hz0 hz1 hz2 rfl _ _ _ rfl (own_empty _ _ _ _ (by simp) (by simp)) _ _ rfl (Rd.below hba (((Below.refl wr.heap.size wr).alloc (Nat.le_refl _) _).alloc (by simp) _) (Nat.le_refl _)) (bc_one pre) (by simp; unfold maxLen; omega) (by simp; omega) (by simp; omega) ?_; intro v2 w2 hown2 hg2; obtain ⟨hb2, hc0, hc1, hc2, hc3, hz⟩ := was_step hg2; clear hg2)
        have K0 := Lib.hid (show it.kind = 4 from k4)
        clear k4 hadk hsv hc0 hc1 hc2
        have hPK : PK wr u5 u6 v2 bv pre it.b w2 := ⟨hb2, Rd.below hba hb2 (Nat.le_refl _), Rd.below hbb hb2 (Nat.le_refl _), Puts.bs' (by simpa using hown2), Rd.below h3 hb2 (Nat.le_refl _)⟩
        clear hown2
        go_region_held3 (fun W => PK wr u5 u6 v2 bv pre it.b W ∧ W.cell? ⟨wr.heap.size, 3, none⟩ = some (.float .f64 it.x)) (first | exact ⟨hPK.drew, hc3⟩ | exact PK.keep (by assumption) (by assumption))
          (first
            | (go_at_call 31; refine (PutNum_any u5 pre it.x _ (PK.fa (by assumption)) (by omega) ok5).mono ?_; rintro e wA ⟨vA, rfl, hA0, hbA⟩; have hA := Puts.bs' hA0; clear hA0)
            | (go_at_call 32; refine (rNum_any u6 pre it.x _ (PK.fb (by assumption)) (by omega) ok5).mono ?_; rintro e wB ⟨vB, rfl, hB0, hbB⟩; have hB := Puts.bs' hB0; clear hB0))
        all_goals
          obtain ⟨hq1, hq2, hq3⟩ := PK.all (by assumption)
          first
            | (have hA2 := Rd.below hA hbB (Nat.le_refl _); have hB2 := hB)
            | (have hB2 := Rd.below hB hbA (Nat.le_refl _); have hA2 := hA)
          clear hA hB hbA hbB hPK
          go_wp2_with (go_at_call 14; refine (Same_yes _ _ _ _ (by assumption) (by assumption)).mono ?_; rintro e w' ⟨rfl, rfl⟩)
          go_roundw
          case rel => exact ⟨k + 1, by omega, by go_num, by rw [HET.out, show enc it = be 8 (numW it.x) by simp [enc, K0.out]]; exact hA2, by rw [HET.out, show enc it = be 8 (numW it.x) by simp [enc, K0.out]]; exact hB2, hbel.trans (hq1.mono hbel.size)⟩
          case measure => simp [intOf]; omega
      · have e0 : (it.kind == 0) = false := by simpa using k0
        have e1 : (it.kind == 1) = false := by simpa using k1
        have e2 : (it.kind == 2) = false := by simpa using k2
        have e3 : (it.kind == 3) = false := by simpa using k3
        have e4 : (it.kind == 4) = false := by simpa using k4
        have hadk := HADK.out
        go_wp2_with (at_builtin; refine wpList_append_rd _ rfl _ _ 24 rfl wr.heap.size 5 i0 (.int .u8 0) 1 Try.underlying24 hi hz0 hz1 hz2 rfl _ _ _ rfl (own_empty _ _ _ _ (by simp) (by simp)) _ _ rfl (Rd.below hba (((Below.refl wr.heap.size wr).alloc (Nat.le_refl _) _).alloc (by simp) _) (Nat.le_refl _)) (bc_one pre) (by simp; unfold maxLen; omega) (by simp; omega) (by simp; omega) ?_; intro v2 w2 hown2 hg2; obtain ⟨hb2, hc0, hc1, hc2, hc3, hz⟩ := was_step hg2; clear hg2)
        have K0 := Lib.hid (show enc it = [] from by simp [enc, k0, k1, k2, k3, k4])
        clear k0 k1 k2 k3 k4 hadk hsv hc0 hc1 hc2 hc3
        have hPK : PK wr u5 u6 v2 bv pre it.b w2 := ⟨hb2, Rd.below hba hb2 (Nat.le_refl _), Rd.below hbb hb2 (Nat.le_refl _), Puts.bs' (by simpa using hown2), Rd.below h3 hb2 (Nat.le_refl _)⟩
        clear hown2
        obtain ⟨hq1, hq2, hq4, hq3, hq5⟩ := hPK
        go_wp2_with (go_at_call 14; refine (Same_yes _ _ _ _ (by assumption) (by assumption)).mono ?_; rintro e w' ⟨rfl, rfl⟩)
        go_roundw
        case rel => exact ⟨k + 1, by omega, by go_num, by rw [HET.out, K0.out, List.append_nil]; exact hq2, by rw [HET.out, K0.out, List.append_nil]; exact hq4, hbel.trans (hq1.mono hbel.size)⟩
        case measure => simp [intOf]; omega
    · obtain rfl : k = its.length := by omega
      rw [List.take_length] at hba hbb
      clear hn
      go_wp2
      go_ret3
      exact ⟨_, _, rfl, hba, hbb, hbel⟩
end Go.Proofs.Ytdhpklbdajcfoaa
