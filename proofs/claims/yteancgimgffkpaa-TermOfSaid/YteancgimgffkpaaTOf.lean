/- Layer 2: digests of parts, by the program and by the document. -/
import Derived.Test.YteancgimgffkpaaTParts
namespace Go.Proofs.Yteancgimgffkpaa
open Go.RowKit
set_option linter.unusedVariables false

/-- a part's bytes; parts' bytes; a digest's bytes -/
def partB (l : List UInt8) : List UInt8 := be 4 l.length ++ l
def partsB (ls : List (List UInt8)) : List UInt8 := ls.flatMap partB
def headT (tag : UInt8) (n : Nat) : List UInt8 := [tag] ++ be 4 (capC n).toNat
def encT (tag : UInt8) (ls : List (List UInt8)) : List UInt8 := headT tag ls.length ++ partsB ls

theorem partB_length (l : List UInt8) : (partB l).length = 4 + l.length := by simp [partB, be_length]
theorem headT_length (tag : UInt8) (n : Nat) : (headT tag n).length = 5 := by simp [headT, be_length]
theorem partsB_take (ls : List (List UInt8)) (k : Nat) (h : k < ls.length) : partsB (ls.take (k + 1)) = partsB (ls.take k) ++ partB ls[k] := by
  unfold partsB
  rw [List.take_succ_eq_append_getElem h, List.flatMap_append, List.flatMap_singleton]
theorem partsB_take_le (ls : List (List UInt8)) (k : Nat) : (partsB (ls.take k)).length ≤ (partsB ls).length := by
  have h : partsB ls = partsB (ls.take k) ++ partsB (ls.drop k) := by unfold partsB; rw [← List.flatMap_append, List.take_append_drop]
  rw [h, List.length_append]
  omega
theorem partsB_few (ls : List (List UInt8)) (h : ∀ l ∈ ls, l.length ≤ 20000) : (partsB ls).length ≤ 20004 * ls.length := by
  induction ls with
  | nil => simp [partsB]
  | cons l ls ih =>
    have h1 := h l (by simp)
    have h2 := ih (fun j hj => h j (by simp [hj]))
    have h3 : partsB (l :: ls) = partB l ++ partsB ls := by simp [partsB]
    rw [h3, List.length_append, partB_length, List.length_cons]
    omega
theorem encT_length (tag : UInt8) (ls : List (List UInt8)) : (encT tag ls).length = 5 + (partsB ls).length := by simp [encT, headT_length]

theorem own_mono {w : World} {B B' n : Nat} {e : TypeId} {v : Value} {xs : List Value} (h : w.ownsRow B' e 1 v n xs) (hB : B ≤ B') : w.ownsRow B e 1 v n xs := by
  obtain ⟨h1, h2⟩ := h
  refine ⟨h1, ?_⟩
  rcases h2 with h2 | ⟨g, cap, cur, h3, h4, h5⟩
  · exact .inl h2
  · exact .inr ⟨g, cap, cur, h3, Nat.le_trans hB h4, h5⟩

theorem run_strD {w : World} {v : Value} {l : List UInt8} (h : Bs w v l) : (convert 31 25 v).run Try.prog w = .ok (.string (strB l)) w := by
  obtain ⟨A, c, rfl, hc, _, hn, hx⟩ := h
  rcases A with _ | ad
  · have hc0 := hn rfl
    subst hc0
    have : l = [] := List.eq_nil_of_length_eq_zero (by simpa using hc)
    subst this
    exact run_convert_bytes_nil w _ _ Try.underlying31 Try.underlying5 _ _ _ Try.underlying25
  · have hl : (loadCells ad (l.map bc).length).run Try.prog w = .ok ((l.map fun b => (b.toNat : Int)).map (Value.int .u8)).toArray w := by
      have := run_loadCells_list (P := Try.prog) w ad (l.map bc) (fun j u hj => by
        obtain ⟨ad', e, _, hr⟩ := hx (by rintro h; rw [h] at hj; simp at hj)
        injection e with e
        subst e
        exact hr j u hj)
      rw [this, List.map_map]
      rfl
    rw [run_convert_bytes_string w _ _ _ _ _ c Try.underlying31 Try.underlying5 Try.underlying25, run_bytesToString w _ _ c _ hl, foldl_push_bytes]
    simp [ByteArray.empty, ByteArray.emptyWithCapacity, strB]
    show ([] : List UInt8) ++ _ = l
    rw [List.nil_append]
    conv => rhs; rw [← List.map_id l]
    exact List.map_congr_left fun b _ => by simp

/-- what makes a digest: the string of its bytes; new memory alone -/
def Tells (s : List UInt8) (w : World) (e : Ending) (w' : World) : Prop := e = .returned (.string (strB s)) ∧ Below w.heap.size w w'

set_option maxHeartbeats 1000000 in
theorem Of_any (tag : UInt8) (v : Value) (ls : List (List UInt8)) (w : World) (hv : Bss w v ls) (h1 : ls.length ≤ 4000000000) (h2 : ∀ l ∈ ls, l.length ≤ 4000000000) (h3 : (encT tag ls).length ≤ 10000000000000) :
    Calls Try.prog 11 #[.int .u8 (tag.toNat : Int), v] w (Tells (encT tag ls) w) := by
  obtain ⟨i0, hi, hz0, hz1, hz2⟩ := info_parts u8info
  have h4 : ∀ k, 5 + (partsB (ls.take k)).length ≤ 10000000000000 := fun k => by have := partsB_take_le ls k; rw [encT_length] at h3; omega
  have HV := Lib.hid hv
  have H2 := Lib.hid h2
  have H4 := Lib.hid h4
  obtain ⟨A, c, rfl, hc, hm, -⟩ := hv.open
  clear hv h2 h4 h3 hc hm
  go_enter Try.func11, Try.ntmps11
  go_wp2_with (first
    | (go_at_call 22; refine (PutCount_any _ [tag] ls.length _ (Bs.lit w [tag] (by simp) (by simp) _ _ rfl rfl _ rfl) (by simp) (by omega) (by omega)).mono ?_; rintro e w1 ⟨v1, rfl, hown1, hb1⟩))
  have hB1 : Below w.heap.size w w1 := ((Below.refl _ _).alloc (Nat.le_refl _) _).trans (hb1.mono (by simp))
  have hown2 : w1.ownsRow w.heap.size 5 1 v1 (headT tag ls.length ++ partsB (ls.take 0)).length ((headT tag ls.length ++ partsB (ls.take 0)).map bc) := by
    have := own_mono (B := w.heap.size) hown1 (by simp)
    simpa [headT, partsB] using this
  clear hown1 hb1
  go_wp2
  go_loopw [5, 15] (fun v i wr => ∃ k : Nat, k ≤ ls.length ∧ i = .int .i64 k ∧ wr.ownsRow w.heap.size 5 1 v (headT tag ls.length ++ partsB (ls.take k)).length ((headT tag ls.length ++ partsB (ls.take k)).map bc) ∧ Below w.heap.size w wr) (fun _ i _ => ls.length - (intOf i).toNat)
  case atStart => exact ⟨0, Nat.zero_le _, rfl, hown2, hB1⟩
  case round =>
    obtain ⟨k, hk, rfl, hown, hbel⟩ := hrel
    clear hown2 hB1
    by_cases hlt : k < ls.length
    · obtain ⟨A', c', e, -, -, hx⟩ := (HV.out.below hbel (Nat.le_refl _)).open
      injection e with e e2 e3
      subst e
      clear e2 e3
      obtain ⟨ad, x, rfl, -, hcell, hbx⟩ := hx k hlt
      clear hx
      have hl2 := H2.out _ (List.getElem_mem hlt)
      have hl4 := H4.out (k + 1)
      have hts := partsB_take ls k hlt
      rw [hts, List.length_append, partB_length] at hl4
      have HT := Lib.hid hts
      clear hts
      go_wp2_with (first
        | (go_at_call 23; refine (PutBytes_any _ _ [] ls[k] _ (Bs.nil _) hbx (by simp) hl2).mono ?_; rintro e w2 ⟨v2, rfl, hown2, hb2⟩; have hbs2 : Bs w2 v2 (partB ls[k]) := Rd.of_own (by simpa [partB] using hown2); have hownB := own_below hown hb2)
        | (at_builtin; refine wpList_append_rd _ rfl (.tmp 19) (.tmp 21) 31 rfl w.heap.size 5 i0 (.int .u8 0) 1 Try.underlying31 hi hz0 hz1 hz2 rfl _ _ _ rfl hownB _ _ rfl hbs2 (bc_one _) (by simp [headT_length, partB_length]; unfold maxLen; omega) (by simp [headT_length, partB_length]; omega) (by have := hbel.size; have := hb2.size; omega) ?_; intro v3 w3 hown3 hg3))
      have hB3 := (hbel.trans (hb2.mono hbel.size)).grown hg3 (by have := hbel.size; have := hb2.size; omega) (fun g hg => (hownB.lt g hg).1)
      have hown4 : w3.ownsRow w.heap.size 5 1 v3 (headT tag ls.length ++ partsB (ls.take (k + 1))).length ((headT tag ls.length ++ partsB (ls.take (k + 1))).map bc) := by
        rw [HT.out]
        simpa [Nat.add_assoc] using hown3
      clear hown3 hg3 hownB hbs2 hown2
      go_wp2
      go_roundw
      case rel => exact ⟨k + 1, by omega, by go_num, hown4, hB3⟩
      case measure => simp [intOf]; omega
    · obtain rfl : k = ls.length := by omega
      rw [List.take_length] at hown
      have hs := run_strD (l := encT tag ls) (Rd.of_own hown)
      clear hown
      go_wp2
      go_ret
      exact ⟨rfl, hbel⟩

set_option maxHeartbeats 1000000 in
theorem rOf_any (tag : UInt8) (v : Value) (ls : List (List UInt8)) (w : World) (hv : Bss w v ls) (h1 : ls.length ≤ 4000000000) (h2 : ∀ l ∈ ls, l.length ≤ 4000000000) (h3 : (encT tag ls).length ≤ 10000000000000) :
    Calls Try.prog 12 #[.int .u8 (tag.toNat : Int), v] w (Tells (encT tag ls) w) := by
  have h4 : ∀ k, 5 + (partsB (ls.take k)).length ≤ 10000000000000 := fun k => by have := partsB_take_le ls k; rw [encT_length] at h3; omega
  have HV := Lib.hid hv
  have H2 := Lib.hid h2
  have H4 := Lib.hid h4
  obtain ⟨A, c, rfl, hc, hm, -⟩ := hv.open
  clear hv h2 h4 h3 hc hm
  go_enter Try.func12, Try.ntmps12
  go_wp2_with (first
    | (go_at_call 24; refine (rCount_any _ [tag] ls.length _ (Bs.lit w [tag] (by simp) (by simp) _ _ rfl rfl _ rfl) (by simp) (by omega) (by omega)).mono ?_; rintro e w1 ⟨v1, rfl, hown1, hb1⟩))
  have hB1 : Below w.heap.size w w1 := ((Below.refl _ _).alloc (Nat.le_refl _) _).trans (hb1.mono (by simp))
  have hbs1 : Bs w1 v1 (headT tag ls.length ++ partsB (ls.take 0)) := Rd.of_own (by simpa [headT, partsB] using hown1)
  clear hown1 hb1
  go_loopw [5, 6] (fun v i wr => ∃ k : Nat, k ≤ ls.length ∧ i = .int .i64 k ∧ Bs wr v (headT tag ls.length ++ partsB (ls.take k)) ∧ Below w.heap.size w wr) (fun _ i _ => ls.length - (intOf i).toNat)
  case atStart => exact ⟨0, Nat.zero_le _, rfl, hbs1, hB1⟩
  case round =>
    obtain ⟨k, hk, rfl, hbs, hbel⟩ := hrel
    clear hbs1 hB1
    by_cases hlt : k < ls.length
    · obtain ⟨A', c', e, -, -, hx⟩ := (HV.out.below hbel (Nat.le_refl _)).open
      injection e with e e2 e3
      subst e
      clear e2 e3
      obtain ⟨ad, x, rfl, -, hcell, hbx⟩ := hx k hlt
      clear hx
      have hl2 := H2.out _ (List.getElem_mem hlt)
      have hl4 := H4.out (k + 1)
      have hts := partsB_take ls k hlt
      rw [hts, List.length_append, partB_length] at hl4
      have HT := Lib.hid hts
      clear hts
      go_wp2_with (first
        | (go_at_call 25; refine (rBytes_any _ _ _ ls[k] _ hbs hbx (by rw [List.length_append, headT_length]; omega) hl2).mono ?_; rintro e w2 ⟨v2, rfl, hown2, hb2⟩))
      have hbs2 : Bs w2 v2 (headT tag ls.length ++ partsB (ls.take (k + 1))) := by
        rw [HT.out]
        exact Rd.of_own (by simpa [partB] using hown2)
      have hB2 := hbel.trans (hb2.mono hbel.size)
      clear hown2 hb2
      go_wp2
      go_roundw
      case rel => exact ⟨k + 1, by omega, by go_num, hbs2, hB2⟩
      case measure => simp [intOf]; omega
    · obtain rfl : k = ls.length := by omega
      rw [List.take_length] at hbs
      have hs := run_strD (l := encT tag ls) hbs
      clear hbs
      go_wp2
      go_ret
      exact ⟨rfl, hbel⟩
end Go.Proofs.Yteancgimgffkpaa
