/- WireBack: what was put is read as it was. -/
import Derived.Test.YtdhpklbdajcfoaaLaws
import Derived.Deep.RegionHeld3
namespace Go.Proofs.Ytdhpklbdajcfoaa
open Go.RowKit
set_option linter.unusedVariables false

theorem fold_be (k : Nat) : ∀ a m : Nat, (be k m).foldl (fun a b => a * 256 + b.toNat) a = a * 256 ^ k + m % 256 ^ k := by
  induction k with
  | zero => intro a m; simp [be, Nat.mod_one]
  | succ k ih =>
    intro a m
    have e : 256 ^ (k + 1) = 256 ^ k * 256 := Nat.pow_succ ..
    have h := Nat.mod_mul (x := m) (a := 256 ^ k) (b := 256)
    rw [be, List.foldl_cons, ih, UInt8.toNat_ofNat', show (2 : Nat) ^ 8 = 256 from rfl, e, h, Nat.add_mul, Nat.mul_assoc, Nat.mul_comm 256 (256 ^ k), Nat.mul_comm (m / 256 ^ k % 256) (256 ^ k)]
    omega
theorem wordN_be (k m : Nat) (h : m < 256 ^ k) : wordN (be k m) = m := by
  unfold wordN
  rw [fold_be, Nat.zero_mul, Nat.zero_add, Nat.mod_eq_of_lt h]

theorem stepF_be (k m : Nat) (al : Int → Int) (rest : List UInt8) (hm : m < 256 ^ k) (ha : al m = 0) : stepF k al (be k m ++ rest) 0 = (m, rest, 0) := by
  have hl := be_length k m
  have ht : (be k m ++ rest).take k = be k m := by rw [List.take_append_of_le_length (by omega), List.take_of_length_le (by omega)]
  have hd : (be k m ++ rest).drop k = rest := by rw [List.drop_append_of_le_length (by omega), List.drop_of_length_le (by omega), List.nil_append]
  unfold stepF
  rw [if_neg (by simp), if_neg (by rw [List.length_append]; omega), ht, hd, wordN_be k m hm, ha, if_neg (by simp)]

theorem alInt_le (m : Nat) (h : m < 18446744073709551616) : alInt m = 0 := by unfold alInt ceilE; rw [if_neg (by omega)]
theorem w64_lt (n : Int) : w64 n < 18446744073709551616 := by have := u64_0 n; have := u64_1 n; unfold w64; omega
theorem wrap_w64 (n : Int) (h0 : -9223372036854775808 ≤ n) (h1 : n ≤ 9223372036854775807) : wrap64 ((w64 n : Nat) : Int) = n := by
  have h2 : ((w64 n : Nat) : Int) = n % 18446744073709551616 := by
    have := u64_0 n
    unfold w64
    rw [IntKind.wrap_u64] at this ⊢
    omega
  rw [h2]
  unfold wrap64
  omega
theorem numW_lt (x : Nat) (h : x < 18446744073709551616) : numW x < 18446744073709551616 := by unfold numW; split <;> omega
theorem numW_numW (x : Nat) : numW (numW x) = numW x := by
  by_cases h : nanB x = true
  · have e : numW x = 9221120237041090561 := by unfold numW; rw [if_pos h]
    rw [e]
    unfold numW
    split <;> rfl
  · have e : numW x = x := by unfold numW; rw [if_neg h]
    rw [e, e]
theorem alNum_num (x : Nat) : alNum (numW x) = 0 := by
  unfold alNum floatE
  rw [Int.toNat_natCast]
  by_cases h : nanB x = true
  · have e : numW x = 9221120237041090561 := by unfold numW; rw [if_pos h]
    rw [e, if_neg (by rintro ⟨h1, -⟩; exact h1 rfl)]
  · have e : numW x = x := by unfold numW; rw [if_neg h]
    rw [e, if_neg (by rintro ⟨-, h1⟩; exact h h1)]

theorem step_int (n : Int) (rest : List UInt8) : stepF 8 alInt (be 8 (w64 n) ++ rest) 0 = (w64 n, rest, 0) := stepF_be 8 _ _ _ (w64_lt n) (alInt_le _ (w64_lt n))
theorem step_bool (b : Bool) (rest : List UInt8) : stepF 1 alBool (be 1 b.toNat ++ rest) 0 = (b.toNat, rest, 0) := by
  cases b <;> exact stepF_be 1 _ _ _ (by decide) (by decide)
theorem step_count (n : Int) (rest : List UInt8) : stepF 4 (alCount 1099511627776) (be 4 (capC n).toNat ++ rest) 0 = ((capC n).toNat, rest, 0) := by
  have h0 : 0 ≤ capC n := by unfold capC; omega
  have h1 : capC n ≤ 4294967295 := by unfold capC; omega
  exact stepF_be 4 _ _ _ (by omega) (by unfold alCount ceilE; rw [if_neg (by omega)])
theorem step_num (x : Nat) (h : x < 18446744073709551616) (rest : List UInt8) : stepF 8 alNum (be 8 (numW x) ++ rest) 0 = (numW x, rest, 0) :=
  stepF_be 8 _ _ _ (by have := numW_lt x h; omega) (alNum_num x)
theorem bytes_bytes (l rest : List UInt8) (hl : l.length ≤ 1000000) : bytesF 1099511627776 (be 4 l.length ++ l ++ rest) 0 = (l, rest, 0) := by
  have hs : stepF 4 (alBytes 1099511627776 (be 4 l.length ++ l ++ rest)) (be 4 l.length ++ l ++ rest) 0 = (l.length, l ++ rest, 0) := by
    rw [List.append_assoc]
    refine stepF_be 4 _ _ _ (by omega) ?_
    have hc : ceilE (max 1099511627776 0) 11 (l.length : Int) = 0 := by unfold ceilE; rw [if_neg (by omega)]
    unfold alBytes roomE
    simp only [List.length_append, be_length]
    rw [hc, if_pos rfl, if_neg (by omega)]
  unfold bytesF
  rw [hs]
  by_cases h0 : l.length = 0
  · have : l = [] := List.eq_nil_of_length_eq_zero h0
    subst this
    rfl
  · rw [if_neg h0]
    simp

theorem RdR.drew {w : World} {g : Nat} {rest : List UInt8} {err : Int} (h : RdR w g rest err) : RdR w.drew g rest err := h

/-- a reader's block, and a cell of another one -/
theorem bk_keep {w W W' : World} {g b j : Nat} {y : Value} (ho : Only g W W') (hg : w.heap.size ≤ g) (hne : b ≠ g) (h : Below w.heap.size w W ∧ W.cell? ⟨b, j, none⟩ = some y) : Below w.heap.size w W' ∧ W'.cell? ⟨b, j, none⟩ = some y :=
  ⟨h.1.trans (ho.to_below h.1.size hg), ho.cell h.2 (by intro e; injection e with e; exact hne e)⟩

theorem encs_drop (its : List Itm) (k : Nat) (h : k < its.length) : encs (its.drop k) = enc its[k] ++ encs (its.drop (k + 1)) := by
  unfold encs
  rw [List.drop_eq_getElem_cons h, List.flatMap_cons]

set_option maxRecDepth 100000 in
set_option maxHeartbeats 1000000 in
theorem WireBack_yes (v : Value) (its : List Itm) (w : World) (hv : Itms w v its) (hfew : fewB its = true) :
    Calls Try.prog 4 #[v] w fun e w' => e = .returned (.bool true) ∧ Below w.heap.size w w' := by
  have hfa := few_any v its w hv
  rw [hfew] at hfa
  have HF := Lib.hid hfa
  have HP := Lib.hid (put_any v its w hv hfew)
  have HV := Lib.hid hv
  obtain ⟨A, c, rfl, hc, hm, hn, hx⟩ := hv
  have hlen : its.length ≤ 200 := by simp [fewB] at hfew; exact hfew.1
  have hbl : ∀ i ∈ its, i.b.length ≤ 2000 := by simp [fewB] at hfew; exact hfew.2
  have HBL := Lib.hid hbl
  have hEs := encs_length its hbl
  clear hfew hfa hbl hx hn
  have hsf := fun (w : World) (a : Addr) (m : Mode) (b : Nat) => run_store Try.prog w a (.float .f64 b) m rfl
  go_enter Try.func4, Try.ntmps4
  go_wp2_with (first
    | (go_at_call 7; refine HF.out.mono ?_; rintro e w' ⟨rfl, rfl⟩)
    | (go_at_call 8; refine HP.out.mono ?_; rintro e w1 ⟨va, vb, rfl, ha, hb, hb1⟩)
    | (go_at_call 10; refine (New_any va (encs its) _ ha (by omega)).mono ?_; rintro e w2 ⟨g, rfl, hg2, hr2, hb2⟩))
  have hgw : w.heap.size ≤ g := by have := hb1.size; omega
  have hbw := hb1.trans (hb2.mono hb1.size)
  clear hb1 hb2 ha hb hg2
  go_loopw [5, 7] (fun ok i wr => ∃ k : Nat, k ≤ its.length ∧ i = .int .i64 k ∧ ok = .bool true ∧ RdR wr g (encs (its.drop k)) 0 ∧ Below w.heap.size w wr) (fun _ i _ => its.length - (intOf i).toNat)
  case atStart => exact ⟨0, Nat.zero_le _, rfl, rfl, hr2, hbw⟩
  case round =>
    obtain ⟨k, hk, rfl, rfl, hr, hbel⟩ := hrel
    clear hr2 hbw
    have hgl := hr.lt
    by_cases hlt : k < its.length
    · obtain ⟨A', c', e, -, -, -, hx⟩ := HV.out
      injection e with e1 e2 e3
      subst e3
      obtain ⟨ad, ha0, hbl, hat⟩ := hx (by rintro rfl; simp at hlt)
      obtain rfl : A = some ad := e1.trans ha0
      clear hx ha0 e1 e2
      obtain ⟨⟨-, -, ok3, ok4, ok5⟩, bv, h0, h1, h2, h3, h4⟩ := hat k its[k] (List.getElem?_eq_getElem hlt)
      have hbk : (ad.add (k * 4)).block < w.heap.size := by rw [block_add]; exact hbl
      have hEb := HBL.out _ (List.getElem_mem hlt)
      have hed := encs_drop its k hlt
      obtain ⟨rest, hrest⟩ : ∃ rest, encs (its.drop (k + 1)) = rest := ⟨_, rfl⟩
      have hrl := encs_length (its.drop k) (fun i hi => HBL.out i (List.mem_of_mem_drop hi))
      rw [hed, hrest] at hr hrl
      have hrl2 : (enc its[k]).length + rest.length ≤ 400800 := by rw [List.length_append, List.length_drop] at hrl; omega
      have HRL := Lib.hid hrl2
      clear hrl hrl2
      have HREST := Lib.hid hrest
      clear hed hrest
      have hsv : ∀ (w : World) (a : Addr) (m : Mode), (store a bv m).run Try.prog w = stored Try.prog w a bv m := by
        obtain ⟨A2, c2, hA2, -, -, -, -⟩ := h3
        subst hA2
        exact fun w a m => run_store Try.prog w a _ m rfl
      generalize its[k] = it at *
      obtain ⟨adk, hadk⟩ : ∃ adk, adk = ad.add (k * 4) := ⟨_, rfl⟩
      rw [← hadk] at h0 h1 h2 h4 hbk
      replace h0 := (hbel.cell hbk).trans h0
      replace h1 := (hbel.cell (p := ⟨_, _, none⟩) hbk).trans h1
      replace h2 := (hbel.cell (p := ⟨_, _, none⟩) hbk).trans h2
      replace h4 := (hbel.cell (p := ⟨_, _, none⟩) hbk).trans h4
      have hadk' := hadk.symm
      have HR := Lib.hid hr
      clear hat hadk hr
      by_cases k0 : it.kind = 0
      · have K0 : Hid (enc it = be 8 (w64 it.n)) := by unfold Hid; simp [enc, k0]
        go_wp2_with fail
        have hr := HR.out
        rw [K0.out] at hr
        have hbel2 := hbel.alloc hbel.size (.cells #[Value.int .i64 0, Value.int .i64 it.n, bv, Value.float .f64 it.x] 32)
        replace hr := hr.below ((Below.refl _ _).alloc (Nat.le_refl _) (.cells #[Value.int .i64 0, Value.int .i64 it.n, bv, Value.float .f64 it.x] 32))
        have hcell := (cell_of_row _ _ 1 _ 32 (0, 0) (heap_alloc_new wr (.cells #[Value.int .i64 0, Value.int .i64 it.n, bv, Value.float .f64 it.x] 32)))
        replace hcell : _ = some (Value.int .i64 it.n) := hcell
        have hne : wr.heap.size ≠ g := by omega
        clear k0 hadk' hsv hsf h0 h1 h2 h4
        have HFF := Lib.hid (step_int it.n rest)
        have HWR := Lib.hid (wrap_w64 it.n ok3 ok4)
        go_region_held3 (fun W => Below w.heap.size w W ∧ W.cell? ⟨wr.heap.size, 1, none⟩ = some (Value.int .i64 it.n)) (first | exact ⟨hbel2.drew, hcell⟩ | (refine bk_keep (by assumption) hgw hne (by assumption)) | assumption)
          (first
            | (go_at_call 11; refine (Int_any g _ 0 _ (RdR.drew hr)).mono ?_; rintro e wA ⟨rfl, hq, ho⟩; rw [HFF.out] at hq; rw [HFF.out, HWR.out]))
        all_goals
          have hZ := And.left (by assumption : Below w.heap.size w _ ∧ _ = some _)
          go_wp2
          go_roundw
          case rel => exact ⟨k + 1, by omega, by go_num, (by first | rfl | (refine congrArg Value.bool ?_; rw [beq_iff_eq]; repeat' split; all_goals omega)), by rw [HREST.out]; exact hq, hZ⟩
          case measure => simp [intOf]; omega
      by_cases k1 : it.kind = 1
      · have K0 : Hid (enc it = be 1 (decide (0 < it.n)).toNat) := by unfold Hid; simp [enc, k1]
        go_wp2_with fail
        have hr := HR.out
        rw [K0.out] at hr
        have hbel2 := hbel.alloc hbel.size (.cells #[Value.int .i64 1, Value.int .i64 it.n, bv, Value.float .f64 it.x] 32)
        replace hr := hr.below ((Below.refl _ _).alloc (Nat.le_refl _) (.cells #[Value.int .i64 1, Value.int .i64 it.n, bv, Value.float .f64 it.x] 32))
        have hcell := (cell_of_row _ _ 1 _ 32 (0, 0) (heap_alloc_new wr (.cells #[Value.int .i64 1, Value.int .i64 it.n, bv, Value.float .f64 it.x] 32)))
        replace hcell : _ = some (Value.int .i64 it.n) := hcell
        have hne : wr.heap.size ≠ g := by omega
        clear k1 hadk' hsv hsf h0 h1 h2 h4
        have HFF := Lib.hid (step_bool (decide (0 < it.n)) rest)
        have HWR : Hid (decide ((decide (0 < it.n)).toNat = 1) = decide (0 < it.n)) := by unfold Hid; cases decide (0 < it.n) <;> rfl
        go_region_held3 (fun W => Below w.heap.size w W ∧ W.cell? ⟨wr.heap.size, 1, none⟩ = some (Value.int .i64 it.n)) (first | exact ⟨hbel2.drew, hcell⟩ | (refine bk_keep (by assumption) hgw hne (by assumption)) | assumption)
          (first
            | (go_at_call 12; refine (Bool_any g _ 0 _ (RdR.drew hr)).mono ?_; rintro e wA ⟨rfl, hq, ho⟩; rw [HFF.out] at hq; rw [HFF.out, HWR.out]))
        all_goals
          have hZ := And.left (by assumption : Below w.heap.size w _ ∧ _ = some _)
          go_wp2
          go_roundw
          case rel => exact ⟨k + 1, by omega, by go_num, (by first | rfl | (refine congrArg Value.bool ?_; rw [beq_iff_eq]; repeat' split; all_goals omega)), by rw [HREST.out]; exact hq, hZ⟩
          case measure => simp [intOf]; omega
      by_cases k2 : it.kind = 2
      · have K0 : Hid (enc it = be 4 (capC it.n).toNat) := by unfold Hid; simp [enc, k2]
        go_wp2_with fail
        have hr := HR.out
        rw [K0.out] at hr
        have hbel2 := hbel.alloc hbel.size (.cells #[Value.int .i64 2, Value.int .i64 it.n, bv, Value.float .f64 it.x] 32)
        replace hr := hr.below ((Below.refl _ _).alloc (Nat.le_refl _) (.cells #[Value.int .i64 2, Value.int .i64 it.n, bv, Value.float .f64 it.x] 32))
        have hcell := (cell_of_row _ _ 1 _ 32 (0, 0) (heap_alloc_new wr (.cells #[Value.int .i64 2, Value.int .i64 it.n, bv, Value.float .f64 it.x] 32)))
        replace hcell : _ = some (Value.int .i64 it.n) := hcell
        have hne : wr.heap.size ≠ g := by omega
        clear k2 hadk' hsv hsf h0 h1 h2 h4
        rcases (show it.n < 0 ∨ it.n = 0 ∨ (0 < it.n ∧ it.n ≤ 4294967295) ∨ 4294967295 < it.n from by omega) with hnn | hnn | hnn | hnn
        · have HFF := Lib.hid (step_count it.n rest)
          have HWR : Hid (wrap64 (((capC it.n).toNat : Nat) : Int) = 0) := by unfold Hid wrap64 capC; omega
          go_region_held3 (fun W => Below w.heap.size w W ∧ W.cell? ⟨wr.heap.size, 1, none⟩ = some (Value.int .i64 it.n)) (first | exact ⟨hbel2.drew, hcell⟩ | (refine bk_keep (by assumption) hgw hne (by assumption)) | assumption)
            (first
              | (go_at_call 13; refine (Count_any g _ 0 1099511627776 (by omega) (by omega) _ (RdR.drew hr)).mono ?_; rintro e wA ⟨rfl, hq, ho⟩; rw [HFF.out] at hq; rw [HFF.out, HWR.out]))
          all_goals
            have hZ := And.left (by assumption : Below w.heap.size w _ ∧ _ = some _)
            go_wp2
            go_roundw
            case rel => exact ⟨k + 1, by omega, by go_num, (by first | rfl | (refine congrArg Value.bool ?_; rw [beq_iff_eq]; repeat' split; all_goals omega)), by rw [HREST.out]; exact hq, hZ⟩
            case measure => simp [intOf]; omega
        · have HFF := Lib.hid (step_count it.n rest)
          have HWR : Hid (wrap64 (((capC it.n).toNat : Nat) : Int) = 0) := by unfold Hid wrap64 capC; omega
          have hn1 : it.n ≤ 0 := by omega
          have hn2 : 0 ≤ it.n := by omega
          have HN := Lib.hid hnn
          clear hnn
          go_region_held3 (fun W => Below w.heap.size w W ∧ W.cell? ⟨wr.heap.size, 1, none⟩ = some (Value.int .i64 it.n)) (first | exact ⟨hbel2.drew, hcell⟩ | (refine bk_keep (by assumption) hgw hne (by assumption)) | assumption)
            (first
              | (go_at_call 13; refine (Count_any g _ 0 1099511627776 (by omega) (by omega) _ (RdR.drew hr)).mono ?_; rintro e wA ⟨rfl, hq, ho⟩; rw [HFF.out] at hq; rw [HFF.out, HWR.out]))
          all_goals
            have hZ := And.left (by assumption : Below w.heap.size w _ ∧ _ = some _)
            go_wp2
            go_roundw
            case rel => exact ⟨k + 1, by omega, by go_num, (by first | rfl | (refine congrArg Value.bool ?_; rw [beq_iff_eq]; repeat' split; all_goals omega)), by rw [HREST.out]; exact hq, hZ⟩
            case measure => simp [intOf]; omega
        · have HFF := Lib.hid (step_count it.n rest)
          have HWR : Hid (wrap64 (((capC it.n).toNat : Nat) : Int) = it.n) := by unfold Hid wrap64 capC; omega
          obtain ⟨hn1, hn2⟩ := hnn
          go_region_held3 (fun W => Below w.heap.size w W ∧ W.cell? ⟨wr.heap.size, 1, none⟩ = some (Value.int .i64 it.n)) (first | exact ⟨hbel2.drew, hcell⟩ | (refine bk_keep (by assumption) hgw hne (by assumption)) | assumption)
            (first
              | (go_at_call 13; refine (Count_any g _ 0 1099511627776 (by omega) (by omega) _ (RdR.drew hr)).mono ?_; rintro e wA ⟨rfl, hq, ho⟩; rw [HFF.out] at hq; rw [HFF.out, HWR.out]))
          all_goals
            have hZ := And.left (by assumption : Below w.heap.size w _ ∧ _ = some _)
            go_wp2
            go_roundw
            case rel => exact ⟨k + 1, by omega, by go_num, (by first | rfl | (refine congrArg Value.bool ?_; rw [beq_iff_eq]; repeat' split; all_goals omega)), by rw [HREST.out]; exact hq, hZ⟩
            case measure => simp [intOf]; omega
        · have HFF := Lib.hid (step_count it.n rest)
          have HWR : Hid (wrap64 (((capC it.n).toNat : Nat) : Int) = 4294967295) := by unfold Hid wrap64 capC; omega
          go_region_held3 (fun W => Below w.heap.size w W ∧ W.cell? ⟨wr.heap.size, 1, none⟩ = some (Value.int .i64 it.n)) (first | exact ⟨hbel2.drew, hcell⟩ | (refine bk_keep (by assumption) hgw hne (by assumption)) | assumption)
            (first
              | (go_at_call 13; refine (Count_any g _ 0 1099511627776 (by omega) (by omega) _ (RdR.drew hr)).mono ?_; rintro e wA ⟨rfl, hq, ho⟩; rw [HFF.out] at hq; rw [HFF.out, HWR.out]))
          all_goals
            have hZ := And.left (by assumption : Below w.heap.size w _ ∧ _ = some _)
            go_wp2
            go_roundw
            case rel => exact ⟨k + 1, by omega, by go_num, (by first | rfl | (refine congrArg Value.bool ?_; rw [beq_iff_eq]; repeat' split; all_goals omega)), by rw [HREST.out]; exact hq, hZ⟩
            case measure => simp [intOf]; omega
      by_cases k3 : it.kind = 3
      · have K0 : Hid (enc it = be 4 it.b.length ++ it.b) := by unfold Hid; simp [enc, k3]
        go_wp2_with fail
        have hr := HR.out
        rw [K0.out] at hr
        have hbel2 := hbel.alloc hbel.size (.cells #[Value.int .i64 3, Value.int .i64 it.n, bv, Value.float .f64 it.x] 32)
        replace hr := hr.below ((Below.refl _ _).alloc (Nat.le_refl _) (.cells #[Value.int .i64 3, Value.int .i64 it.n, bv, Value.float .f64 it.x] 32))
        have hcell := (cell_of_row _ _ 2 _ 32 (0, 0) (heap_alloc_new wr (.cells #[Value.int .i64 3, Value.int .i64 it.n, bv, Value.float .f64 it.x] 32)))
        replace hcell : _ = some bv := hcell
        have hne : wr.heap.size ≠ g := by omega
        clear k3 hadk' hsv hsf h0 h1 h2 h4
        have HFF := Lib.hid (bytes_bytes it.b rest (by omega))
        have hRl : (be 4 it.b.length ++ it.b ++ rest).length ≤ 140737488355320 := by rw [← K0.out, List.length_append]; have := HRL.out; omega
        go_region_held3 (fun W => Below w.heap.size w W ∧ W.cell? ⟨wr.heap.size, 2, none⟩ = some bv) (first | exact ⟨hbel2.drew, hcell⟩ | (refine bk_keep (by assumption) hgw hne (by assumption)) | assumption)
          (first
            | (go_at_call 15; refine (Bytes_any g _ 0 1099511627776 (by omega) (by omega) _ (RdR.drew hr) hRl).mono ?_; rintro e wA ⟨vA, rfl, hqb, hq, ho⟩; rw [HFF.out] at hq hqb)
            | (go_at_call 14; refine (Same_yes _ _ _ _ hqb (Rd.below h3 (And.left (by assumption : Below w.heap.size w _ ∧ _ = some _)) (Nat.le_refl _))).mono ?_; rintro e w' ⟨rfl, rfl⟩))
        all_goals
          have hZ := And.left (by assumption : Below w.heap.size w _ ∧ _ = some _)
          go_wp2
          go_roundw
          case rel => exact ⟨k + 1, by omega, by go_num, (by first | rfl | (refine congrArg Value.bool ?_; rw [beq_iff_eq]; repeat' split; all_goals omega)), by rw [HREST.out]; exact hq, hZ⟩
          case measure => simp [intOf]; omega
      by_cases k4 : it.kind = 4
      · have K0 : Hid (enc it = be 8 (numW it.x)) := by unfold Hid; simp [enc, k4]
        go_wp2_with fail
        have hr := HR.out
        rw [K0.out] at hr
        have hbel2 := hbel.alloc hbel.size (.cells #[Value.int .i64 4, Value.int .i64 it.n, bv, Value.float .f64 it.x] 32)
        replace hr := hr.below ((Below.refl _ _).alloc (Nat.le_refl _) (.cells #[Value.int .i64 4, Value.int .i64 it.n, bv, Value.float .f64 it.x] 32))
        have hcell := (cell_of_row _ _ 3 _ 32 (0, 0) (heap_alloc_new wr (.cells #[Value.int .i64 4, Value.int .i64 it.n, bv, Value.float .f64 it.x] 32)))
        replace hcell : _ = some (Value.float .f64 it.x) := hcell
        have hne : wr.heap.size ≠ g := by omega
        clear k4 hadk' hsv hsf h0 h1 h2 h4
        have HFF := Lib.hid (step_num it.x ok5 rest)
        go_region_held3 (fun W => Below w.heap.size w W ∧ W.cell? ⟨wr.heap.size, 3, none⟩ = some (Value.float .f64 it.x)) (first | exact ⟨hbel2.drew, hcell⟩ | (refine bk_keep (by assumption) hgw hne (by assumption)) | assumption)
          (first
            | (go_at_call 17; refine (Num_any g _ 0 _ (RdR.drew hr)).mono ?_; rintro e wA ⟨rfl, hq, ho⟩; rw [HFF.out] at hq; rw [HFF.out])
            | (go_at_call_of 16 (Value.float .f64 it.x); refine (rBits_any it.x _).mono ?_; rintro e w' ⟨rfl, rfl⟩)
            | (go_at_call_of 16 (Value.float .f64 (numW it.x)); refine (rBits_any (numW it.x) _).mono ?_; rintro e w' ⟨rfl, rfl⟩; rw [numW_numW]))
        all_goals
          have hZ := And.left (by assumption : Below w.heap.size w _ ∧ _ = some _)
          go_wp2
          go_roundw
          case rel => exact ⟨k + 1, by omega, by go_num, (by first | rfl | (refine congrArg Value.bool ?_; rw [beq_iff_eq]; repeat' split; all_goals omega)), by rw [HREST.out]; exact hq, hZ⟩
          case measure => simp [intOf]; omega
      · have K0 : Hid (enc it = []) := by unfold Hid; simp [enc, k0, k1, k2, k3, k4]
        have e0 : (it.kind == 0) = false := by simpa using k0
        have e1 : (it.kind == 1) = false := by simpa using k1
        have e2 : (it.kind == 2) = false := by simpa using k2
        have e3 : (it.kind == 3) = false := by simpa using k3
        have e4 : (it.kind == 4) = false := by simpa using k4
        have hr := HR.out
        rw [K0.out, List.nil_append] at hr
        have hbel2 := hbel.alloc hbel.size (.cells #[Value.int .i64 it.kind, Value.int .i64 it.n, bv, Value.float .f64 it.x] 32)
        replace hr := hr.below ((Below.refl _ _).alloc (Nat.le_refl _) (.cells #[Value.int .i64 it.kind, Value.int .i64 it.n, bv, Value.float .f64 it.x] 32))
        clear k0 k1 k2 k3 k4
        go_wp2
        go_roundw
        case rel => exact ⟨k + 1, by omega, by go_num, rfl, by rw [HREST.out]; exact hr, hbel2⟩
        case measure => simp [intOf]; omega
    · obtain rfl : k = its.length := by omega
      rw [List.drop_of_length_le (Nat.le_refl _)] at hr
      have hE : endE [] 0 = 0 := by decide
      have HE := Lib.hid hE
      clear hE
      replace hr : RdR wr g [] 0 := hr
      go_wp2_with (first
        | (go_at_call 18; refine (End_any g [] 0 _ hr).mono ?_; rintro e wA ⟨rfl, hq, ho⟩; rw [HE.out] at hq; have hB := hbel.trans (ho.to_below hbel.size hgw))
        | (go_at_call 19; refine (Err_any g [] 0 _ hq).mono ?_; rintro e w' ⟨rfl, rfl⟩)
        | (go_at_call 20; refine (Left_any g [] 0 _ hq).mono ?_; rintro e w' ⟨rfl, rfl⟩)
        | (go_at_call 9; refine (awake_any _).mono ?_; rintro e wB ⟨rfl, hb2⟩))
      go_ret
      exact ⟨rfl, hB.trans (hb2.mono hB.size)⟩

theorem WireBack_any (v : Value) (its : List Itm) (w : World) (hv : Itms w v its) :
    Calls Try.prog 4 #[v] w fun e w' => e = .returned (.bool true) ∧ Below w.heap.size w w' := by
  rcases hf : fewB its with _ | _
  · have hfa := few_any v its w hv
    rw [hf] at hfa
    have HF := Lib.hid hfa
    clear hf hfa
    go_enter Try.func4, Try.ntmps4
    go_wp2_with (go_at_call 7; refine HF.out.mono ?_; rintro e w' ⟨rfl, rfl⟩)
    go_ret
    exact ⟨rfl, Below.refl _ _⟩
  · exact WireBack_yes v its w hv hf
end Go.Proofs.Ytdhpklbdajcfoaa
