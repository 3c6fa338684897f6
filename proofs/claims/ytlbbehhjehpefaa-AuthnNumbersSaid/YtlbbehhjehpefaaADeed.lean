/- Layer 3: deeds in memory; are they few. -/
import Derived.Test.YtlbbehhjehpefaaALaw1
namespace Go.Proofs.Ytlbbehhjehpefaa
open Go.RowKit
set_option linter.unusedVariables false

/-- a deed: who, which bytes, is it a question -/
structure Dd where
  s : Int
  l : List UInt8
  ask : Bool

/-- the slice value v reads as deeds -/
def Ds (w : World) (v : Value) (ds : List Dd) : Prop :=
  ∃ A c, v = .slice A ds.length c ∧ ds.length ≤ c ∧ c ≤ maxLen ∧ (∀ k (hk : k < ds.length), ∃ ad bv, A = some ad ∧ ad.block < w.heap.size ∧ w.cell? (ad.add (k * 3)) = some (.int .i64 ds[k].s) ∧
    w.cell? ⟨(ad.add (k * 3)).block, (ad.add (k * 3)).off + 1, none⟩ = some bv ∧ w.cell? ⟨(ad.add (k * 3)).block, (ad.add (k * 3)).off + 2, none⟩ = some (.bool ds[k].ask) ∧ Bs w bv ds[k].l ∧ ok64 ds[k].s)
theorem Ds.below {w w' : World} {v : Value} {ds : List Dd} {B : Nat} (h : Ds w v ds) (hb : Below B w w') (hB : w.heap.size ≤ B) : Ds w' v ds := by
  obtain ⟨A, c, hv, hc, hm, hx⟩ := h
  refine ⟨A, c, hv, hc, hm, fun k hk => ?_⟩
  obtain ⟨ad, bv, ha, hl, h0, h1, h2, h3, h4⟩ := hx k hk
  have hbl : (ad.add (k * 3)).block < B := by rw [block_add]; omega
  exact ⟨ad, bv, ha, Nat.lt_of_lt_of_le hl hb.size, (hb.cell hbl).trans h0, (hb.cell (p := ⟨_, _, none⟩) hbl).trans h1, (hb.cell (p := ⟨_, _, none⟩) hbl).trans h2, h3.below hb hB, h4⟩

/-- few deeds of few bytes -/
def fewD (ds : List Dd) : Bool := decide (ds.length ≤ 100) && ds.all fun d => decide (d.l.length ≤ 1000)
theorem fewD_iff {ds : List Dd} : fewD ds = true ↔ ds.length ≤ 100 ∧ ∀ d ∈ ds, d.l.length ≤ 1000 := by simp [fewD]

set_option maxHeartbeats 400000 in
theorem fewD_any (v : Value) (ds : List Dd) (w : World) (hv : Ds w v ds) : Calls Try.prog 15 #[v] w (Says (.bool (fewD ds)) w) := by
  obtain ⟨A, c, rfl, hc, hm, hx⟩ := hv
  have HX := Lib.hid hx
  clear hx
  by_cases h100 : 100 < ds.length
  · have hf : fewD ds = false := by rw [← Bool.not_eq_true, fewD_iff]; omega
    rw [hf]
    go_enter Try.func15, Try.ntmps15
    go_wp2
    go_ret
    exact ⟨rfl, rfl⟩
  · go_enter Try.func15, Try.ntmps15
    go_wp2
    go_loop [3] (fun i => ∃ k : Nat, k ≤ ds.length ∧ (ds.take k).all (fun d => decide (d.l.length ≤ 1000)) = true ∧ i = .int .i64 k) (fun i => ds.length - (intOf i).toNat)
    case atStart => exact ⟨0, Nat.zero_le _, rfl, rfl⟩
    case round =>
      obtain ⟨k, hk, hall, rfl⟩ := hrel
      by_cases hlt : k < ds.length
      · obtain ⟨ad, bv, rfl, -, -, h1, -, hbx, -⟩ := HX.out k hlt
        obtain ⟨A2, c2, rfl, -, -, -, -⟩ := hbx.open
        clear hbx
        have HA := Lib.hid hall
        clear hall
        by_cases hb : ds[k].l.length ≤ 1000
        · have hbt : (ds.take (k + 1)).all (fun d => decide (d.l.length ≤ 1000)) = true := by
            rw [List.take_succ_eq_append_getElem hlt, List.all_append, HA.out]; simpa using hb
          have HB := Lib.hid hbt
          clear hbt
          go_wp2
          go_round
          case rel => exact ⟨k + 1, by omega, HB.out, by go_num⟩
          case measure => simp [intOf]; omega
        · have hf : fewD ds = false := by rw [← Bool.not_eq_true, fewD_iff]; rintro ⟨-, h⟩; exact hb (h _ (List.getElem_mem hlt))
          have HF := Lib.hid hf
          clear hf
          go_wp2
          go_ret
          exact ⟨ret_bool HF.out.symm, rfl⟩
      · obtain rfl : k = ds.length := by omega
        have hf : fewD ds = true := by rw [List.take_length] at hall; simp [fewD, hall]; omega
        have HF := Lib.hid hf
        clear hall HX hf
        go_wp2
        go_ret
        exact ⟨ret_bool HF.out.symm, rfl⟩

/-- the table behind k deeds that all sign -/
def tabK (f c : Int) (ds : List Dd) : List (Int × List UInt8) := ds.foldl (fun L d => signT f c d.s d.l L) []
theorem tabK_take (f c : Int) (ds : List Dd) (k : Nat) (h : k < ds.length) : tabK f c (ds.take (k + 1)) = signT f c ds[k].s ds[k].l (tabK f c (ds.take k)) := by
  unfold tabK
  rw [List.take_succ_eq_append_getElem h, List.foldl_append]
  rfl
theorem addP_length (L : List (Int × List UInt8)) (s : Int) (l : List UInt8) : (addP L s l).length ≤ L.length + 1 := by
  unfold addP; split <;> simp
theorem signT_length (f c s : Int) (l : List UInt8) (L : List (Int × List UInt8)) : (signT f c s l L).length ≤ L.length + 1 := by
  unfold signT
  split
  · exact addP_length L s l
  · omega
theorem tabK_le (f c : Int) (ds : List Dd) : ∀ k, (tabK f c (ds.take k)).length ≤ k
  | 0 => by simp [tabK]
  | k + 1 => by
    have ih := tabK_le f c ds k
    by_cases hk : k < ds.length
    · rw [tabK_take f c ds k hk]
      have := signT_length f c ds[k].s ds[k].l (tabK f c (ds.take k))
      omega
    · rw [List.take_of_length_le (by omega)] at ih ⊢; omega

/-- has one of the deeds signed it -/
def there (f c : Int) (ds : List Dd) (y : Dd) : Bool := ds.any fun d => (signE f c d.s d.l == 0) && (d.s == y.s) && (d.l == y.l)
theorem there_take (f c : Int) (ds : List Dd) (y : Dd) (k : Nat) (h : k < ds.length) : there f c (ds.take (k + 1)) y = (there f c (ds.take k) y || ((signE f c ds[k].s ds[k].l == 0) && (ds[k].s == y.s) && (ds[k].l == y.l))) := by
  unfold there
  rw [List.take_succ_eq_append_getElem h, List.any_append]
  simp
theorem mem_addP {L : List (Int × List UInt8)} {s t : Int} {l m : List UInt8} : (t, m) ∈ addP L s l ↔ (t, m) ∈ L ∨ (s = t ∧ l = m) := by
  unfold addP
  by_cases h : (s, l) ∈ L
  · rw [if_pos h]
    constructor
    · exact .inl
    · rintro (h' | ⟨rfl, rfl⟩)
      · exact h'
      · exact h
  · rw [if_neg h, List.mem_append, List.mem_singleton, Prod.mk.injEq]
    constructor
    · rintro (h' | ⟨rfl, rfl⟩)
      · exact .inl h'
      · exact .inr ⟨rfl, rfl⟩
    · rintro (h' | ⟨rfl, rfl⟩)
      · exact .inl h'
      · exact .inr ⟨rfl, rfl⟩
theorem there_tab (f c : Int) (ds : List Dd) (y : Dd) : ∀ k, k ≤ ds.length → (there f c (ds.take k) y = true ↔ (y.s, y.l) ∈ tabK f c (ds.take k))
  | 0, _ => by simp [there, tabK]
  | k + 1, h => by
    have ih := there_tab f c ds y k (by omega)
    rw [there_take f c ds y k (by omega), tabK_take f c ds k (by omega), Bool.or_eq_true, ih]
    unfold signT
    by_cases he : signE f c ds[k].s ds[k].l = 0
    · rw [if_pos he, mem_addP, he]
      simp
    · rw [if_neg he]
      simp [he]
theorem tab_known (f c : Int) (ds : List Dd) (y : Dd) : ∀ k, k ≤ ds.length → (y.s, y.l) ∈ tabK f c (ds.take k) → knB f c y.s = true
  | 0, _ => by simp [tabK]
  | k + 1, h => by
    have ih := tab_known f c ds y k (by omega)
    rw [tabK_take f c ds k (by omega)]
    unfold signT
    by_cases he : signE f c ds[k].s ds[k].l = 0
    · rw [if_pos he, mem_addP]
      rintro (h' | ⟨h1, -⟩)
      · exact ih h'
      · rw [← h1]
        rcases hk : knB f c ds[k].s with _ | _
        · rw [signE_no hk] at he; omega
        · rfl
    · rw [if_neg he]
      exact ih
/-- what was signed is right, and nothing else -/
theorem check_there (f c : Int) (ds : List Dd) (y : Dd) : (checkE f c y.s y.l (tabK f c ds) == 0) = there f c ds y := by
  have h1 := there_tab f c ds y ds.length (Nat.le_refl _)
  have h2 := tab_known f c ds y ds.length (Nat.le_refl _)
  rw [List.take_length] at h1 h2
  rcases ht : there f c ds y with _ | _
  · have hn : (y.s, y.l) ∉ tabK f c ds := fun h => by rw [h1.2 h] at ht; cases ht
    rcases hk : knB f c y.s with _ | _
    · rw [checkE_no hk]; rfl
    · rw [checkE_not hk (by simpa using hn)]; rfl
  · have hm := h1.1 ht
    rw [checkE_yes (h2 hm) (by simpa using hm)]; rfl
end Go.Proofs.Ytlbbehhjehpefaa
