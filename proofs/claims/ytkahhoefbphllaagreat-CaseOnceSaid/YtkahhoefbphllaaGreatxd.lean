/- xd: CEff CStage CRight CTexts CTexts2 CField CEff2 CPutL CMv CPut CChk CPut2 CAw0 CNew EArgs CArgs KMem ELz KAw0 KOnce0 CAw CPure CRef CGetD CNorm CGetK CGetP CGetL CGetF0 CGetF KRight KEnds (made by shake.py). -/
import Derived.BigQuiet
import Derived.Deep.RegionHeld3
import Derived.Deep.RegionWith
import Derived.Test.YtkahhoefbphllaaGreatxc
/- Layer 6: a move's effects: where one on a field stands, that each stands once, that all are right. (Made by gen/gencfind.py.) -/
namespace Go.Proofs.YtkahhoefbphllaaGreat
open Go.RowKit
set_option linter.unusedVariables false
set_option linter.unusedSimpArgs false
set_option maxRecDepth 20000

abbrev agEf (x : Eff) (A : Option Addr) (c : Nat) : Value := .agg #[.string x.field, .int .i64 x.e.op, .slice A x.e.kids.length c, .string x.e.name, .int .i64 x.e.val.k, .int .i64 x.e.val.i, .bool x.e.val.b, .string x.e.val.s, .float .f64 x.e.val.n]
set_option maxHeartbeats 1000000 in
/-- IndexFunc over a row of Eff, by the closure quaestor/contract.effectOn 1 -/
theorem idx_Effect (P : Eff → Bool) (p : Nat) (A : Option Addr) (cc : Nat) (l : List Eff) (w : World) (hf : EffK w A cc l)
    (hcall : ∀ x ∈ l, ∀ (A : Option Addr) (c : Nat) W, Below w.heap.size w W → ExE W A c x.e → Calls Tryz.prog 250 #[agEf x A c, .pointer (some ⟨p, 0, none⟩)] W (VMk (.bool (P x)) W)) :
    Calls Tryz.prog 249 #[.slice A l.length cc, .func (Fn.func 250) #[] #[.pointer (some ⟨p, 0, none⟩)]] w (VMk (.int .i64 (firstB P l 0)) w) := by
  obtain ⟨h1, h2, h3, h4⟩ := hf
  unfold maxLen at h2
  have hlen : l.length ≤ 9223372036854775807 := by omega
  have HP := Lib.hid hcall
  have H4 := Lib.hid h4
  clear hcall h4 h1 h2 h3
  have hsf := fun (w : World) (a : Addr) (m : Mode) (b : Nat) => run_store Tryz.prog w a (.float .f64 b) m rfl
  go_enter Tryz.func249, Tryz.ntmps249
  go_wp2
  go_loopw [8] (fun i wr => ∃ k : Nat, k ≤ l.length ∧ i = .int .i64 k ∧ firstB P (l.drop k) k = firstB P l 0 ∧ Below w.heap.size w wr) (fun i _ => l.length - (intOf i).toNat)
  case atStart => exact ⟨0, Nat.zero_le _, rfl, rfl, Below.refl _ _⟩
  case round =>
    obtain ⟨k, hk, rfl, hfi, hb⟩ := hrel
    by_cases hlt : k < l.length
    · obtain ⟨ad, rfl, hbl, hpart⟩ := H4.out k hlt
      have hpart2 := hpart.below hb (by rw [block_add]; exact hbl)
      have hmem := List.getElem_mem hlt
      rw [List.drop_eq_getElem_cons hlt, firstB] at hfi
      generalize l[k] = x at *
      obtain ⟨A, c, h0, hk, hdeep⟩ := hpart2
      have q0 : wr.cell? (ad.add (k * 9)) = some (.string x.field) := h0
      have q1 : wr.cell? ⟨(ad.add (k * 9)).block, (ad.add (k * 9)).off + 1, none⟩ = some (.int .i64 x.e.op) := hk.1
      have q2 : wr.cell? ⟨(ad.add (k * 9)).block, (ad.add (k * 9)).off + 2, none⟩ = some (.slice A x.e.kids.length c) := hk.2.1
      have q3 : wr.cell? ⟨(ad.add (k * 9)).block, (ad.add (k * 9)).off + 3, none⟩ = some (.string x.e.name) := hk.2.2.1
      have q4 : wr.cell? ⟨(ad.add (k * 9)).block, (ad.add (k * 9)).off + 4, none⟩ = some (.int .i64 x.e.val.k) := hk.2.2.2.1
      have q5 : wr.cell? ⟨(ad.add (k * 9)).block, (ad.add (k * 9)).off + 5, none⟩ = some (.int .i64 x.e.val.i) := hk.2.2.2.2.1
      have q6 : wr.cell? ⟨(ad.add (k * 9)).block, (ad.add (k * 9)).off + 6, none⟩ = some (.bool x.e.val.b) := hk.2.2.2.2.2.1
      have q7 : wr.cell? ⟨(ad.add (k * 9)).block, (ad.add (k * 9)).off + 7, none⟩ = some (.string x.e.val.s) := hk.2.2.2.2.2.2.1
      have q8 : wr.cell? ⟨(ad.add (k * 9)).block, (ad.add (k * 9)).off + 8, none⟩ = some (.float .f64 x.e.val.n) := hk.2.2.2.2.2.2.2
      have hc := HP.out x hmem A c wr hb hdeep
      clear hpart hmem
      rcases hd : P x with _ | _
      all_goals
        rw [hd] at hc hfi
        have HC := Lib.hid hc
        have HF := Lib.hid hfi
        clear hc hfi hd hdeep
        go_wp2_with (go_at_call 250; refine HC.out.mono ?_; rintro e w1 ⟨rfl, hb1⟩)
      · go_roundw
        case rel => exact ⟨k + 1, by omega, by go_num, by have h := HF.out; rwa [if_neg (by decide)] at h, hb.trans (hb1.mono hb.size)⟩
        case measure => simp [intOf]; omega
      · go_ret
        exact ⟨ret_int (by have h := HF.out; simpa using h), hb.trans (hb1.mono hb.size)⟩
    · obtain rfl : k = l.length := by omega
      rw [List.drop_length, firstB] at hfi
      have HF := Lib.hid hfi
      clear hfi
      go_wp2
      go_ret
      exact ⟨ret_int HF.out, hb⟩
set_option maxHeartbeats 1000000 in
theorem once_Effect (g : Eff → Int) (p : Nat) (A : Option Addr) (cc : Nat) (l : List Eff) (w : World) (hf : EffK w A cc l)
    (hcall : ∀ x ∈ l, ∀ (A : Option Addr) (c : Nat) W, Below w.heap.size w W → Calls Tryz.prog 223 #[agEf x A c, .pointer (some ⟨p, 0, none⟩)] W (VMk (.int .i64 (g x)) W)) :
    Calls Tryz.prog 222 #[.slice A l.length cc, .func (Fn.func 223) #[] #[.pointer (some ⟨p, 0, none⟩)]] w (VMk (.bool (onceF g l 0)) w) := by
  obtain ⟨h1, h2, h3, h4⟩ := hf
  unfold maxLen at h2
  have hlen : l.length ≤ 9223372036854775807 := by omega
  have HP := Lib.hid hcall
  have H4 := Lib.hid h4
  clear hcall h4 h1 h2 h3
  have hsf := fun (w : World) (a : Addr) (m : Mode) (b : Nat) => run_store Tryz.prog w a (.float .f64 b) m rfl
  go_enter Tryz.func222, Tryz.ntmps222
  go_wp2
  go_loopw [9] (fun i wr => ∃ k : Nat, k ≤ l.length ∧ i = .int .i64 k ∧ onceF g (l.drop k) k = onceF g l 0 ∧ Below w.heap.size w wr) (fun i _ => l.length - (intOf i).toNat)
  case atStart => exact ⟨0, Nat.zero_le _, rfl, rfl, Below.refl _ _⟩
  case round =>
    obtain ⟨k, hk, rfl, hfi, hb⟩ := hrel
    by_cases hlt : k < l.length
    · obtain ⟨ad, rfl, hbl, hpart⟩ := H4.out k hlt
      have hpart2 := hpart.below hb (by rw [block_add]; exact hbl)
      have hmem := List.getElem_mem hlt
      rw [List.drop_eq_getElem_cons hlt, onceF] at hfi
      generalize l[k] = x at *
      obtain ⟨A, c, h0, hk, hdeep⟩ := hpart2
      have q0 : wr.cell? (ad.add (k * 9)) = some (.string x.field) := h0
      have q1 : wr.cell? ⟨(ad.add (k * 9)).block, (ad.add (k * 9)).off + 1, none⟩ = some (.int .i64 x.e.op) := hk.1
      have q2 : wr.cell? ⟨(ad.add (k * 9)).block, (ad.add (k * 9)).off + 2, none⟩ = some (.slice A x.e.kids.length c) := hk.2.1
      have q3 : wr.cell? ⟨(ad.add (k * 9)).block, (ad.add (k * 9)).off + 3, none⟩ = some (.string x.e.name) := hk.2.2.1
      have q4 : wr.cell? ⟨(ad.add (k * 9)).block, (ad.add (k * 9)).off + 4, none⟩ = some (.int .i64 x.e.val.k) := hk.2.2.2.1
      have q5 : wr.cell? ⟨(ad.add (k * 9)).block, (ad.add (k * 9)).off + 5, none⟩ = some (.int .i64 x.e.val.i) := hk.2.2.2.2.1
      have q6 : wr.cell? ⟨(ad.add (k * 9)).block, (ad.add (k * 9)).off + 6, none⟩ = some (.bool x.e.val.b) := hk.2.2.2.2.2.1
      have q7 : wr.cell? ⟨(ad.add (k * 9)).block, (ad.add (k * 9)).off + 7, none⟩ = some (.string x.e.val.s) := hk.2.2.2.2.2.2.1
      have q8 : wr.cell? ⟨(ad.add (k * 9)).block, (ad.add (k * 9)).off + 8, none⟩ = some (.float .f64 x.e.val.n) := hk.2.2.2.2.2.2.2
      have hc := fun o => HP.out x hmem A c (wr.alloc o) (hb.trans ((alloc1 wr o).mono hb.size))
      clear hpart hmem
      have HC := Lib.hid hc
      rcases hd : (g x == (k : Int)) with _ | _
      all_goals
        rw [hd] at hfi
        have hne : (g x != (k : Int)) = !(g x == (k : Int)) := rfl
        rw [hd] at hne
        have HF := Lib.hid hfi
        clear hfi hd hc hdeep
        try simp only [Bool.not_true, Bool.not_false] at hne
        go_wp2_with (first | fail | (go_at_call 223; refine (HC.out _).mono ?_; rintro e w1 ⟨rfl, hb1⟩))
      · go_ret
        exact ⟨ret_bool (by have h := HF.out; simpa using h), (hb.trans ((alloc1 wr _).mono hb.size)).trans (hb1.mono (Nat.le_trans hb.size (alloc1 wr _).size))⟩
      · go_roundw
        case rel => exact ⟨k + 1, by omega, by go_num, by have h := HF.out; simpa using h, (hb.trans ((alloc1 wr _).mono hb.size)).trans (hb1.mono (Nat.le_trans hb.size (alloc1 wr _).size))⟩
        case measure => simp [intOf]; omega
    · obtain rfl : k = l.length := by omega
      rw [List.drop_length, onceF] at hfi
      have HF := Lib.hid hfi
      clear hfi
      go_wp2
      go_ret
      exact ⟨ret_bool HF.out, hb⟩
theorem eclo_Effect (pc : Nat) (p : Nat) (b : Bool) (x : Eff) (A : Option Addr) (c : Nat) (w : World) (h : w.cell? ⟨p, 0, none⟩ = some (.func (Fn.func 226) #[] #[.pointer (some ⟨pc, 0, none⟩)]))
    (hcall : ∀ W, Below w.heap.size w W → Calls Tryz.prog 226 #[agEf x A c, .pointer (some ⟨pc, 0, none⟩)] W (VMk (.bool b) W)) :
    Calls Tryz.prog 252 #[agEf x A c, .pointer (some ⟨p, 0, none⟩)] w (VMk (.bool (!b)) w) := by
  have hp : p < w.heap.size := World.block_lt_of_cell? w _ h
  have hne : ¬ w.heap.size = p := by omega
  have HC := Lib.hid hcall
  have hsf := fun (w : World) (a : Addr) (m : Mode) (b : Nat) => run_store Tryz.prog w a (.float .f64 b) m rfl
  clear hcall
  cases b
  all_goals
    go_enter Tryz.func252, Tryz.ntmps252
    go_wp2_with (go_at_call 226; refine (HC.out _ (alloc1 w _)).mono ?_; rintro e w1 ⟨rfl, hb1⟩)
    go_ret
    exact ⟨rfl, bel2 (alloc1 w _) hb1⟩
set_option maxHeartbeats 1000000 in
/-- IndexFunc over a row of Eff, by the closure quaestor/contract.each[quaestor/api.Effect] 1 -/
theorem idx_eEffect (P : Eff → Bool) (p : Nat) (A : Option Addr) (cc : Nat) (l : List Eff) (w : World) (hf : EffK w A cc l)
    (hcall : ∀ x ∈ l, ∀ (A : Option Addr) (c : Nat) W, Below w.heap.size w W → ExE W A c x.e → Calls Tryz.prog 252 #[agEf x A c, .pointer (some ⟨p, 0, none⟩)] W (VMk (.bool (P x)) W)) :
    Calls Tryz.prog 249 #[.slice A l.length cc, .func (Fn.func 252) #[] #[.pointer (some ⟨p, 0, none⟩)]] w (VMk (.int .i64 (firstB P l 0)) w) := by
  obtain ⟨h1, h2, h3, h4⟩ := hf
  unfold maxLen at h2
  have hlen : l.length ≤ 9223372036854775807 := by omega
  have HP := Lib.hid hcall
  have H4 := Lib.hid h4
  clear hcall h4 h1 h2 h3
  have hsf := fun (w : World) (a : Addr) (m : Mode) (b : Nat) => run_store Tryz.prog w a (.float .f64 b) m rfl
  go_enter Tryz.func249, Tryz.ntmps249
  go_wp2
  go_loopw [8] (fun i wr => ∃ k : Nat, k ≤ l.length ∧ i = .int .i64 k ∧ firstB P (l.drop k) k = firstB P l 0 ∧ Below w.heap.size w wr) (fun i _ => l.length - (intOf i).toNat)
  case atStart => exact ⟨0, Nat.zero_le _, rfl, rfl, Below.refl _ _⟩
  case round =>
    obtain ⟨k, hk, rfl, hfi, hb⟩ := hrel
    by_cases hlt : k < l.length
    · obtain ⟨ad, rfl, hbl, hpart⟩ := H4.out k hlt
      have hpart2 := hpart.below hb (by rw [block_add]; exact hbl)
      have hmem := List.getElem_mem hlt
      rw [List.drop_eq_getElem_cons hlt, firstB] at hfi
      generalize l[k] = x at *
      obtain ⟨A, c, h0, hk, hdeep⟩ := hpart2
      have q0 : wr.cell? (ad.add (k * 9)) = some (.string x.field) := h0
      have q1 : wr.cell? ⟨(ad.add (k * 9)).block, (ad.add (k * 9)).off + 1, none⟩ = some (.int .i64 x.e.op) := hk.1
      have q2 : wr.cell? ⟨(ad.add (k * 9)).block, (ad.add (k * 9)).off + 2, none⟩ = some (.slice A x.e.kids.length c) := hk.2.1
      have q3 : wr.cell? ⟨(ad.add (k * 9)).block, (ad.add (k * 9)).off + 3, none⟩ = some (.string x.e.name) := hk.2.2.1
      have q4 : wr.cell? ⟨(ad.add (k * 9)).block, (ad.add (k * 9)).off + 4, none⟩ = some (.int .i64 x.e.val.k) := hk.2.2.2.1
      have q5 : wr.cell? ⟨(ad.add (k * 9)).block, (ad.add (k * 9)).off + 5, none⟩ = some (.int .i64 x.e.val.i) := hk.2.2.2.2.1
      have q6 : wr.cell? ⟨(ad.add (k * 9)).block, (ad.add (k * 9)).off + 6, none⟩ = some (.bool x.e.val.b) := hk.2.2.2.2.2.1
      have q7 : wr.cell? ⟨(ad.add (k * 9)).block, (ad.add (k * 9)).off + 7, none⟩ = some (.string x.e.val.s) := hk.2.2.2.2.2.2.1
      have q8 : wr.cell? ⟨(ad.add (k * 9)).block, (ad.add (k * 9)).off + 8, none⟩ = some (.float .f64 x.e.val.n) := hk.2.2.2.2.2.2.2
      have hc := HP.out x hmem A c wr hb hdeep
      clear hpart hmem
      rcases hd : P x with _ | _
      all_goals
        rw [hd] at hc hfi
        have HC := Lib.hid hc
        have HF := Lib.hid hfi
        clear hc hfi hd hdeep
        go_wp2_with (go_at_call 252; refine HC.out.mono ?_; rintro e w1 ⟨rfl, hb1⟩)
      · go_roundw
        case rel => exact ⟨k + 1, by omega, by go_num, by have h := HF.out; rwa [if_neg (by decide)] at h, hb.trans (hb1.mono hb.size)⟩
        case measure => simp [intOf]; omega
      · go_ret
        exact ⟨ret_int (by have h := HF.out; simpa using h), hb.trans (hb1.mono hb.size)⟩
    · obtain rfl : k = l.length := by omega
      rw [List.drop_length, firstB] at hfi
      have HF := Lib.hid hfi
      clear hfi
      go_wp2
      go_ret
      exact ⟨ret_int HF.out, hb⟩
theorem cont_Effect (p : Nat) (A : Option Addr) (n cc : Nat) (r : Int) (w : World) (hi : Calls Tryz.prog 249 #[.slice A n cc, .func (Fn.func 252) #[] #[.pointer (some ⟨p, 0, none⟩)]] w (VMk (.int .i64 r) w)) :
    Calls Tryz.prog 251 #[.slice A n cc, .func (Fn.func 252) #[] #[.pointer (some ⟨p, 0, none⟩)]] w (VMk (.bool (decide (0 ≤ r))) w) := by
  have HI := Lib.hid hi
  clear hi
  by_cases h0 : 0 ≤ r
  · have hd : decide (0 ≤ r) = true := decide_eq_true h0
    rw [hd]
    clear hd
    go_enter Tryz.func251, Tryz.ntmps251
    go_wp2_with (go_at_call 249; refine HI.out.mono ?_; rintro e w1 ⟨rfl, hb1⟩)
    go_ret
    exact ⟨ret_bool (by first | (simp; done) | (simp; omega)), hb1⟩
  · have hd : decide (0 ≤ r) = false := decide_eq_false h0
    rw [hd]
    clear hd
    go_enter Tryz.func251, Tryz.ntmps251
    go_wp2_with (go_at_call 249; refine HI.out.mono ?_; rintro e w1 ⟨rfl, hb1⟩)
    go_ret
    exact ⟨ret_bool (by first | (simp; done) | (simp; omega)), hb1⟩
set_option maxHeartbeats 1000000 in
theorem each_Effect (pc : Nat) (P : Eff → Bool) (A : Option Addr) (cc : Nat) (l : List Eff) (w : World) (hf : EffK w A cc l)
    (hcall : ∀ x ∈ l, ∀ (A : Option Addr) (c : Nat) W, Below w.heap.size w W → ExE W A c x.e → Calls Tryz.prog 226 #[agEf x A c, .pointer (some ⟨pc, 0, none⟩)] W (VMk (.bool (P x)) W)) :
    Calls Tryz.prog 225 #[.slice A l.length cc, .func (Fn.func 226) #[] #[.pointer (some ⟨pc, 0, none⟩)]] w (VMk (.bool (l.all P)) w) := by
  have hcell : (w.alloc (.cells #[.func (Fn.func 226) #[] #[.pointer (some ⟨pc, 0, none⟩)]] 242)).cell? ⟨w.heap.size, 0, none⟩ = some (.func (Fn.func 226) #[] #[.pointer (some ⟨pc, 0, none⟩)]) := (cell_of_row _ _ 0 _ _ (0, 0) (heap_alloc_new w _)).trans rfl
  have hb0 := alloc1 w (.cells #[.func (Fn.func 226) #[] #[.pointer (some ⟨pc, 0, none⟩)]] 242)
  have hi := idx_eEffect (fun x => !P x) w.heap.size A cc l _ (EffK.below hf hb0) (fun x hx A c W hW hdeep => eclo_Effect pc w.heap.size (P x) x A c W (keepc hW (World.block_lt_of_cell? _ _ hcell) hcell) (fun W2 hW2 => hcall x hx A c W2 (bel2 (bel2 hb0 hW) hW2) (hdeep.below hW2)))
  have hi := cont_Effect _ _ _ _ _ _ hi
  rw [first_all P l 0] at hi
  generalize l.all P = b at *
  have HI := Lib.hid hi
  have HB := Lib.hid hb0
  clear hi hb0 hcell hcall hf
  have hsf := fun (w : World) (a : Addr) (m : Mode) (b : Nat) => run_store Tryz.prog w a (.float .f64 b) m rfl
  cases b
  all_goals
    go_enter Tryz.func225, Tryz.ntmps225
    go_wp2_with (go_at_call 251; refine HI.out.mono ?_; rintro e w1 ⟨rfl, hb1⟩)
    go_ret
    exact ⟨rfl, bel2 HB.out hb1⟩
end Go.Proofs.YtkahhoefbphllaaGreat

/- Layer 6: names, organizations, stages, by the program. -/
namespace Go.Proofs.YtkahhoefbphllaaGreat
open Go.RowKit
set_option linter.unusedVariables false
set_option linter.unusedSimpArgs false
set_option maxRecDepth 20000

theorem among_any (n a b : Int) (w : World) : Calls Tryz.prog 118 #[.int .i64 n, .int .i64 a, .int .i64 b] w (VGv (.bool (decide (a ≤ n) && decide (n ≤ b))) w) := by
  by_cases h1 : a ≤ n
  · by_cases h2 : n ≤ b
    · have e : (decide (a ≤ n) && decide (n ≤ b)) = true := by simp [h1, h2]
      rw [e]; clear e
      go_enter Tryz.func118, Tryz.ntmps118
      go_wp2
      go_ret
      exact ⟨ret_bool (by simp [h2]), rfl⟩
    · have e : (decide (a ≤ n) && decide (n ≤ b)) = false := by simp [h2]
      rw [e]; clear e
      go_enter Tryz.func118, Tryz.ntmps118
      go_wp2
      go_ret
      exact ⟨ret_bool (by first | (simp; done) | (simp; omega)), rfl⟩
  · have e : (decide (a ≤ n) && decide (n ≤ b)) = false := by simp [h1]
    rw [e]; clear e
    go_enter Tryz.func118, Tryz.ntmps118
    go_wp2
    go_ret
    exact ⟨rfl, rfl⟩
theorem isName_any (s : ByteArray) (w : World) : Calls Tryz.prog 65 #[.string s] w (VGv (.bool (nameB s)) w) := by
  have HA := Lib.hid (fun W => among_any (s.size : Int) 1 16 W)
  have hn : nameB s = (decide (1 ≤ (s.size : Int)) && decide ((s.size : Int) ≤ 16)) := rfl
  rw [hn]
  clear hn
  generalize (decide (1 ≤ (s.size : Int)) && decide ((s.size : Int) ≤ 16)) = b at *
  go_enter Tryz.func65, Tryz.ntmps65
  go_wp2_with (go_at_call 118; refine (HA.out _).mono ?_; rintro e w' ⟨rfl, rfl⟩)
  go_ret
  exact ⟨rfl, rfl⟩
theorem Is.open {w : World} {A : Option Addr} {n c : Nat} {l : List Int} (h : Is w (.slice A n c) l) : n = l.length ∧ l.length ≤ maxLen ∧ ∀ k (hk : k < l.length), ∃ ad, A = some ad ∧ ad.block < w.heap.size ∧ w.cell? (ad.add k) = some (.int .i64 l[k]) := by
  obtain ⟨A', c', hv, hc, hm, -, hx⟩ := h
  injection hv with e1 e2 e3
  subst e1 e2 e3
  simp only [List.length_map] at hc ⊢
  refine ⟨by first | rfl | simp, by first | omega | exact Nat.le_trans hc hm | exact Nat.le_of_lt (Nat.lt_of_le_of_lt hc hm), fun k hk => ?_⟩
  obtain ⟨ad, ha, hl, hr⟩ := hx (by intro e; have h0 := congrArg List.length e; simp at h0; subst h0; simp at hk)
  exact ⟨ad, ha, hl, hr k _ (by first | (simp [hk]; done) | exact (List.getElem?_map ..).trans (by simp [hk]))⟩
set_option maxHeartbeats 1000000 in
theorem rightOrgs_any (A : Option Addr) (c : Nat) (l : List Int) (w : World) (h : Is w (.slice A l.length c) l) : Calls Tryz.prog 179 #[.slice A l.length c] w (VGv (.bool (orgsR (-1) l)) w) := by
  obtain ⟨-, hm, hx⟩ := h.open
  unfold maxLen at hm
  have HX := Lib.hid hx
  clear h hx
  go_enter Tryz.func179, Tryz.ntmps179
  go_wp2
  go_loopw [3, 8] (fun a i wr => ∃ k : Nat, ∃ z : Int, k ≤ l.length ∧ i = .int .i64 k ∧ a = .int .i64 z ∧ -1 ≤ z ∧ z ≤ 3 ∧ orgsR z (l.drop k) = orgsR (-1) l ∧ wr = w) (fun _ i _ => l.length - (intOf i).toNat)
  case atStart => exact ⟨0, -1, Nat.zero_le _, rfl, rfl, by omega, by omega, rfl, rfl⟩
  case round =>
    obtain ⟨k, z, hk, rfl, rfl, hz1, hz2, hfi, rfl⟩ := hrel
    by_cases hlt : k < l.length
    · obtain ⟨ad, rfl, hbl, hq⟩ := HX.out k hlt
      rw [List.drop_eq_getElem_cons hlt, orgsR] at hfi
      generalize l[k] = x at *
      have HC := Lib.hid (fun W => among_any x (z + 1) 3 W)
      have hw : IntKind.i64.wrap (z + 1) = z + 1 := by rw [IntKind.wrap_i64]; omega
      rcases hd : (decide (z + 1 ≤ x) && decide (x ≤ 3)) with _ | _
      all_goals
        rw [hd] at hfi HC
        have HD := Lib.hid hd
        have HF := Lib.hid hfi
        clear hfi hd
        go_wp2_with (first | fail | (go_at_call 118; refine (HC.out _).mono ?_; rintro e w1 ⟨rfl, rfl⟩))
      · go_ret
        exact ⟨ret_bool (by have h := HF.out; simpa using h), rfl⟩
      · go_roundw
        case rel => exact ⟨k + 1, x, by omega, by go_num, rfl, by have h := HD.out; simp at h; omega, by have h := HD.out; simp at h; omega, by have h := HF.out; simpa using h, by trivial⟩
        case measure => simp [intOf]; omega
    · obtain rfl : k = l.length := by omega
      rw [List.drop_length, orgsR] at hfi
      have HF := Lib.hid hfi
      clear hfi
      go_wp2
      go_ret
      exact ⟨ret_bool HF.out, rfl⟩
set_option maxHeartbeats 1000000 in
theorem rightStage_any (x : Stg) (A : Option Addr) (c : Nat) (w : World) (h : Is w (.slice A x.orgs.length c) x.orgs) : Calls Tryz.prog 127 #[agSt x A c] w (VMk (.bool (stageR x)) w) := by
  have hl := h.open.2.1
  unfold maxLen at hl
  have HO := Lib.hid (fun W (hb : Below w.heap.size w W) => rightOrgs_any A c x.orgs W (Rd.below h hb (Nat.le_refl _)))
  have HN := Lib.hid (fun W => isName_any x.name W)
  have HA := Lib.hid (fun W => among_any x.need 0 (x.orgs.length : Int) W)
  unfold stageR
  clear h
  generalize nameB x.name = b1 at *
  generalize orgsR (-1) x.orgs = b2 at *
  generalize (decide (0 ≤ x.need) && decide (x.need ≤ (x.orgs.length : Int))) = b3 at *
  go_enter Tryz.func127, Tryz.ntmps127
  have HO2 := Lib.hid (fun o => HO.out (w.alloc o) (alloc1 w o))
  rcases b1 with _ | _ <;> rcases b2 with _ | _
  all_goals
    go_wp2_with (first | fail | (go_at_call 65; refine (HN.out _).mono ?_; rintro e w1 ⟨rfl, rfl⟩) | (go_at_call 179; refine (HO2.out _).mono ?_; rintro e w1 ⟨rfl, rfl⟩) | (go_at_call 118; refine (HA.out _).mono ?_; rintro e w1 ⟨rfl, rfl⟩))
    go_ret
    exact ⟨ret_bool (by simp), alloc1 w _⟩
end Go.Proofs.YtkahhoefbphllaaGreat

/- Layer 6: stages, all of them, by the program; what stands once, by two definitions. -/
namespace Go.Proofs.YtkahhoefbphllaaGreat
open Go.RowKit
set_option linter.unusedVariables false
set_option linter.unusedSimpArgs false
set_option maxRecDepth 20000

theorem onceF_iff {α : Type} (g : α → Int) : ∀ (l : List α) (i : Nat), onceF g l i = true ↔ ∀ (k : Nat) (hk : k < l.length), g l[k] = ((i + k : Nat) : Int)
  | [], i => by simp [onceF]
  | x :: l, i => by
    rw [onceF, Bool.and_eq_true, beq_iff_eq, onceF_iff g l (i + 1)]
    constructor
    · rintro ⟨h1, h2⟩ k hk
      cases k with
      | zero => simpa using h1
      | succ k =>
        have := h2 k (by simpa using hk)
        rw [List.getElem_cons_succ, this]
        omega
    · intro h
      refine ⟨(h 0 (by simp)).trans (by simp), fun k hk => ?_⟩
      have := h (k + 1) (by simpa using hk)
      rw [List.getElem_cons_succ] at this
      rw [this]
      omega
theorem onceN_of {α : Type} (nm : α → ByteArray) (l : List α) : onceN (l.map nm) = onceF (fun x => placeN (nm x) (l.map nm) 0) l 0 := by
  rw [Bool.eq_iff_iff, onceN_iff, onceF_iff]
  constructor
  · intro h k hk
    have := h k (by simpa using hk)
    simpa using this
  · intro h k hk
    have := h k (by simpa using hk)
    simpa using this
set_option maxHeartbeats 1000000 in
theorem rightStages_any (ct : Ctr) (FA : Option Addr) (fc : Nat) (SA : Option Addr) (sc : Nat) (MA : Option Addr) (mc : Nat) (w : World) (h : CtK w ct FA fc SA sc MA mc) :
    Calls Tryz.prog 67 #[agC ct.name FA ct.fs.length fc SA ct.ss.length sc MA ct.ms.length mc] w (VMk (.bool (stagesR ct)) w) := by
  have hm := h.s.2.1
  unfold maxLen at hm
  have hb0 := alloc1 w (.cells #[.string ct.name, .slice FA ct.fs.length fc, .slice SA ct.ss.length sc, .slice MA ct.ms.length mc] 33)
  have hc := fun i => cell_of_row (w.alloc (.cells #[.string ct.name, .slice FA ct.fs.length fc, .slice SA ct.ss.length sc, .slice MA ct.ms.length mc] 33)) w.heap.size i _ 33 (0, 0) (heap_alloc_new w _)
  have c0 := (hc 0).trans rfl
  have c1 := (hc 1).trans rfl
  have c2 : (w.alloc (.cells #[.string ct.name, .slice FA ct.fs.length fc, .slice SA ct.ss.length sc, .slice MA ct.ms.length mc] 33)).cell? ⟨w.heap.size, 2, none⟩ = some (.slice SA ct.ss.length sc) := (hc 2).trans rfl
  have c3 := (hc 3).trans rfl
  have hlt := World.block_lt_of_cell? _ _ c0
  have ho := once_Stage (fun x => placeN x.name (ct.ss.map Stg.name) 0) w.heap.size SA sc ct.ss _ (h.s.below hb0) (fun x hx A c W hW => clo1_Stage w.heap.size ct FA fc SA sc MA mc x A c W (keepc hW hlt c0) (keepc hW hlt c1) (keepc hW hlt c2) (keepc hW hlt c3) (h.below (bel2 hb0 hW)))
  have he := fun W hW => each_Stage stageR SA sc ct.ss W (h.s.below (bel2 hb0 hW)) (fun x hx A c W2 hW2 hI => rightStage_any x A c W2 hI)
  have HA := Lib.hid (fun W => among_any (ct.ss.length : Int) 1 6 W)
  have HO := Lib.hid ho
  have HE := Lib.hid he
  have HQ := Lib.hid (fun (w1 : World) (hb1 : Below (w.alloc (.cells #[.string ct.name, .slice FA ct.fs.length fc, .slice SA ct.ss.length sc, .slice MA ct.ms.length mc] 33)).heap.size (w.alloc (.cells #[.string ct.name, .slice FA ct.fs.length fc, .slice SA ct.ss.length sc, .slice MA ct.ms.length mc] 33)) w1) => keepc hb1 hlt c2)
  unfold stagesR
  rw [onceN_of]
  clear h ho he hc c0 c1 c2 c3 hb0 hlt
  generalize onceF (fun x => placeN x.name (ct.ss.map Stg.name) 0) ct.ss 0 = b2 at *
  generalize (decide (1 ≤ (ct.ss.length : Int)) && decide ((ct.ss.length : Int) ≤ 6)) = b1 at *
  generalize ct.ss.all stageR = b3 at *
  go_enter Tryz.func67, Tryz.ntmps67
  rcases b1 with _ | _ <;> rcases b2 with _ | _
  all_goals
    go_wp2_with (first | fail | (go_at_call 118; refine (HA.out _).mono ?_; rintro e w1 ⟨rfl, rfl⟩) | (go_at_call 124; refine HO.out.mono ?_; rintro e w1 ⟨rfl, hb1⟩; have hq := HQ.out _ hb1) | (go_at_call 126; refine (HE.out _ hb1).mono ?_; rintro e w2 ⟨rfl, hb2⟩))
    go_ret
    first | exact ⟨ret_bool (by simp), alloc1 w _⟩ | exact ⟨ret_bool (by simp), bel2 (alloc1 w _) hb1⟩ | exact ⟨ret_bool (by simp), bel2 (bel2 (alloc1 w _) hb1) hb2⟩
end Go.Proofs.YtkahhoefbphllaaGreat

/- Layer 6: the texts of a field, by the program. -/
namespace Go.Proofs.YtkahhoefbphllaaGreat
open Go.RowKit
set_option linter.unusedVariables false
set_option linter.unusedSimpArgs false
set_option maxRecDepth 20000

/-- where a text stands first -/
theorem cIndex_any (A : Option Addr) (c : Nat) (l : List ByteArray) (s : ByteArray) (w : World) (hv : Ss w (.slice A l.length c) l) : Calls Tryz.prog 218 #[.slice A l.length c, .string s] w (VGv (.int .i64 (placeN s l 0)) w) := by
  obtain ⟨A', c', he, hm, hx⟩ := hv.open
  injection he with e1 e2 e3
  subst e1 e3
  unfold maxLen at hm
  have HX := Lib.hid hx
  clear hx hv e2
  go_enter Tryz.func218, Tryz.ntmps218
  go_wp2
  go_loop [8] (fun i => ∃ k : Nat, k ≤ l.length ∧ i = .int .i64 k ∧ placeN s (l.drop k) k = placeN s l 0) (fun i => l.length - (intOf i).toNat)
  case atStart => exact ⟨0, Nat.zero_le _, rfl, rfl⟩
  case round =>
    obtain ⟨k, hk, rfl, hfi⟩ := hrel
    by_cases hlt : k < l.length
    · obtain ⟨ad, rfl, hbl, hcell⟩ := HX.out k hlt
      rw [List.drop_eq_getElem_cons hlt, placeN] at hfi
      generalize l[k] = x at *
      rcases heq : (s.toList == x.toList) with _ | _
      · rw [if_neg (by rw [BEq.comm, heq]; decide)] at hfi
        have HF := Lib.hid hfi
        clear hfi
        go_wp2
        go_round
        case rel => exact ⟨k + 1, by omega, by go_num, HF.out⟩
        case measure => simp [intOf]; omega
      · rw [if_pos (by rw [BEq.comm, heq])] at hfi
        have HF := Lib.hid hfi
        clear hfi
        go_wp2
        go_ret
        exact ⟨by rw [← HF.out]; rfl, rfl⟩
    · obtain rfl : k = l.length := by omega
      rw [List.drop_length, placeN] at hfi
      have HF := Lib.hid hfi
      clear hfi HX
      go_wp2
      go_ret
      exact ⟨by rw [← HF.out]; rfl, rfl⟩
set_option maxHeartbeats 1000000 in
theorem once_Str (g : ByteArray → Int) (p : Nat) (A : Option Addr) (cc : Nat) (l : List ByteArray) (w : World) (hf : Ss w (.slice A l.length cc) l)
    (hcall : ∀ x ∈ l, ∀ W, Below w.heap.size w W → Calls Tryz.prog 217 #[.string x, .pointer (some ⟨p, 0, none⟩)] W (VMk (.int .i64 (g x)) W)) :
    Calls Tryz.prog 216 #[.slice A l.length cc, .func (Fn.func 217) #[] #[.pointer (some ⟨p, 0, none⟩)]] w (VMk (.bool (onceF g l 0)) w) := by
  obtain ⟨A', c', he, hm, hx⟩ := hf.open
  injection he with e1 e2 e3
  subst e1 e3
  unfold maxLen at hm
  have HP := Lib.hid hcall
  have HX := Lib.hid hx
  clear hcall hx hf e2
  go_enter Tryz.func216, Tryz.ntmps216
  go_wp2
  go_loopw [9] (fun i wr => ∃ k : Nat, k ≤ l.length ∧ i = .int .i64 k ∧ onceF g (l.drop k) k = onceF g l 0 ∧ Below w.heap.size w wr) (fun i _ => l.length - (intOf i).toNat)
  case atStart => exact ⟨0, Nat.zero_le _, rfl, rfl, Below.refl _ _⟩
  case round =>
    obtain ⟨k, hk, rfl, hfi, hb⟩ := hrel
    by_cases hlt : k < l.length
    · obtain ⟨ad, rfl, hbl, hcell⟩ := HX.out k hlt
      have hcell2 := (hb.cell (p := ad.add k) (by rw [block_add]; exact hbl)).trans hcell
      have hmem := List.getElem_mem hlt
      rw [List.drop_eq_getElem_cons hlt, onceF] at hfi
      generalize l[k] = x at *
      have HC := Lib.hid (HP.out x hmem wr hb)
      clear hmem hcell
      rcases hd : (g x == (k : Int)) with _ | _
      all_goals
        rw [hd] at hfi
        have hne : (g x != (k : Int)) = !(g x == (k : Int)) := rfl
        rw [hd] at hne
        have HF := Lib.hid hfi
        clear hfi hd
        try simp only [Bool.not_true, Bool.not_false] at hne
        go_wp2_with (first | fail | (go_at_call 217; refine HC.out.mono ?_; rintro e w1 ⟨rfl, hb1⟩))
      · go_ret
        exact ⟨ret_bool (by have h := HF.out; simpa using h), hb.trans (hb1.mono hb.size)⟩
      · go_roundw
        case rel => exact ⟨k + 1, by omega, by go_num, by have h := HF.out; simpa using h, hb.trans (hb1.mono hb.size)⟩
        case measure => simp [intOf]; omega
    · obtain rfl : k = l.length := by omega
      rw [List.drop_length, onceF] at hfi
      have HF := Lib.hid hfi
      clear hfi
      go_wp2
      go_ret
      exact ⟨ret_bool HF.out, hb⟩
end Go.Proofs.YtkahhoefbphllaaGreat

/- Layer 6: the texts of a field, all of them short, by the program. -/
namespace Go.Proofs.YtkahhoefbphllaaGreat
open Go.RowKit
set_option linter.unusedVariables false
set_option linter.unusedSimpArgs false
set_option maxRecDepth 20000

/-- the closure that asks whether a text is short -/
theorem short_Str (x : ByteArray) (w : World) : Calls Tryz.prog 220 #[.string x] w (VMk (.bool (decide ((x.size : Int) ≤ 32))) w) := by
  go_enter Tryz.func220, Tryz.ntmps220
  go_wp2
  go_ret
  exact ⟨rfl, Below.refl _ _⟩
set_option maxHeartbeats 1000000 in
theorem eclo_Str (p : Nat) (b : Bool) (x : ByteArray) (w : World) (h : w.cell? ⟨p, 0, none⟩ = some (.func (Fn.func 220) #[] #[]))
    (hcall : ∀ W, Below w.heap.size w W → Calls Tryz.prog 220 #[.string x] W (VMk (.bool b) W)) :
    Calls Tryz.prog 247 #[.string x, .pointer (some ⟨p, 0, none⟩)] w (VMk (.bool (!b)) w) := by
  have hp : p < w.heap.size := World.block_lt_of_cell? w _ h
  have hne : ¬ w.heap.size = p := by omega
  have HC := Lib.hid hcall
  clear hcall
  cases b
  all_goals
    go_enter Tryz.func247, Tryz.ntmps247
    go_wp2_with (go_at_call 220; refine (HC.out _ (Below.refl _ _)).mono ?_; rintro e w1 ⟨rfl, hb1⟩)
    go_ret
    exact ⟨rfl, hb1⟩
set_option maxHeartbeats 1000000 in
/-- IndexFunc over a row of Stg, by the closure quaestor/contract.each[string] 1 -/
theorem idx_eStr (P : ByteArray → Bool) (p : Nat) (A : Option Addr) (cc : Nat) (l : List ByteArray) (w : World) (hf : Ss w (.slice A l.length cc) l)
    (hcall : ∀ x ∈ l, ∀ W, Below w.heap.size w W → Calls Tryz.prog 247 #[.string x, .pointer (some ⟨p, 0, none⟩)] W (VMk (.bool (P x)) W)) :
    Calls Tryz.prog 261 #[.slice A l.length cc, .func (Fn.func 247) #[] #[.pointer (some ⟨p, 0, none⟩)]] w (VMk (.int .i64 (firstB P l 0)) w) := by
  obtain ⟨A', c', he, hm, hx⟩ := hf.open
  injection he with e1 e2 e3
  subst e1 e3
  unfold maxLen at hm
  have HP := Lib.hid hcall
  have H4 := Lib.hid hx
  clear hcall hx hf e2
  go_enter Tryz.func261, Tryz.ntmps261
  go_wp2
  go_loopw [8] (fun i wr => ∃ k : Nat, k ≤ l.length ∧ i = .int .i64 k ∧ firstB P (l.drop k) k = firstB P l 0 ∧ Below w.heap.size w wr) (fun i _ => l.length - (intOf i).toNat)
  case atStart => exact ⟨0, Nat.zero_le _, rfl, rfl, Below.refl _ _⟩
  case round =>
    obtain ⟨k, hk, rfl, hfi, hb⟩ := hrel
    by_cases hlt : k < l.length
    · obtain ⟨ad, rfl, hbl, hpart⟩ := H4.out k hlt
      have hcell2 := (hb.cell (p := ad.add k) (by rw [block_add]; exact hbl)).trans hpart
      have hmem := List.getElem_mem hlt
      rw [List.drop_eq_getElem_cons hlt, firstB] at hfi
      generalize l[k] = x at *
      have hc := HP.out x hmem wr hb
      clear hpart hmem
      rcases hd : P x with _ | _
      all_goals
        rw [hd] at hc hfi
        have HC := Lib.hid hc
        have HF := Lib.hid hfi
        clear hc hfi hd
        go_wp2_with (go_at_call 247; refine HC.out.mono ?_; rintro e w1 ⟨rfl, hb1⟩)
      · go_roundw
        case rel => exact ⟨k + 1, by omega, by go_num, by have h := HF.out; rwa [if_neg (by decide)] at h, hb.trans (hb1.mono hb.size)⟩
        case measure => simp [intOf]; omega
      · go_ret
        exact ⟨ret_int (by have h := HF.out; simpa using h), hb.trans (hb1.mono hb.size)⟩
    · obtain rfl : k = l.length := by omega
      rw [List.drop_length, firstB] at hfi
      have HF := Lib.hid hfi
      clear hfi
      go_wp2
      go_ret
      exact ⟨ret_int HF.out, hb⟩
theorem cont_Str (p : Nat) (A : Option Addr) (n cc : Nat) (r : Int) (w : World) (hi : Calls Tryz.prog 261 #[.slice A n cc, .func (Fn.func 247) #[] #[.pointer (some ⟨p, 0, none⟩)]] w (VMk (.int .i64 r) w)) :
    Calls Tryz.prog 246 #[.slice A n cc, .func (Fn.func 247) #[] #[.pointer (some ⟨p, 0, none⟩)]] w (VMk (.bool (decide (0 ≤ r))) w) := by
  have HI := Lib.hid hi
  clear hi
  by_cases h0 : 0 ≤ r
  · have hd : decide (0 ≤ r) = true := decide_eq_true h0
    rw [hd]
    clear hd
    go_enter Tryz.func246, Tryz.ntmps246
    go_wp2_with (go_at_call 261; refine HI.out.mono ?_; rintro e w1 ⟨rfl, hb1⟩)
    go_ret
    exact ⟨ret_bool (by first | (simp; done) | (simp; omega)), hb1⟩
  · have hd : decide (0 ≤ r) = false := decide_eq_false h0
    rw [hd]
    clear hd
    go_enter Tryz.func246, Tryz.ntmps246
    go_wp2_with (go_at_call 261; refine HI.out.mono ?_; rintro e w1 ⟨rfl, hb1⟩)
    go_ret
    exact ⟨ret_bool (by first | (simp; done) | (simp; omega)), hb1⟩
set_option maxHeartbeats 1000000 in
theorem each_Str (P : ByteArray → Bool) (A : Option Addr) (cc : Nat) (l : List ByteArray) (w : World) (hf : Ss w (.slice A l.length cc) l)
    (hcall : ∀ x ∈ l, ∀ W, Below w.heap.size w W → Calls Tryz.prog 220 #[.string x] W (VMk (.bool (P x)) W)) :
    Calls Tryz.prog 219 #[.slice A l.length cc, .func (Fn.func 220) #[] #[]] w (VMk (.bool (l.all P)) w) := by
  have hcell : (w.alloc (.cells #[.func (Fn.func 220) #[] #[]] 90)).cell? ⟨w.heap.size, 0, none⟩ = some (.func (Fn.func 220) #[] #[]) := (cell_of_row _ _ 0 _ _ (0, 0) (heap_alloc_new w _)).trans rfl
  have hb0 := alloc1 w (.cells #[.func (Fn.func 220) #[] #[]] 90)
  have hi := idx_eStr (fun x => !P x) w.heap.size A cc l _ (Ss.below hf hb0 (Nat.le_refl _)) (fun x hx W hW => eclo_Str w.heap.size (P x) x W (keepc hW (World.block_lt_of_cell? _ _ hcell) hcell) (fun W2 hW2 => hcall x hx W2 (bel2 (bel2 hb0 hW) hW2)))
  have hi := cont_Str _ _ _ _ _ _ hi
  rw [first_all P l 0] at hi
  generalize l.all P = b at *
  have HI := Lib.hid hi
  have HB := Lib.hid hb0
  clear hi hb0 hcell hcall hf
  cases b
  all_goals
    go_enter Tryz.func219, Tryz.ntmps219
    go_wp2_with (go_at_call 246; refine HI.out.mono ?_; rintro e w1 ⟨rfl, hb1⟩)
    go_ret
    exact ⟨rfl, bel2 HB.out hb1⟩
end Go.Proofs.YtkahhoefbphllaaGreat

/- Layer 6: a field by itself, by the program. -/
namespace Go.Proofs.YtkahhoefbphllaaGreat
open Go.RowKit
set_option linter.unusedVariables false
set_option linter.unusedSimpArgs false
set_option maxRecDepth 20000

/-- the closure that tells where a text of a field stands first -/
theorem clo_enum (p : Nat) (A : Option Addr) (c : Nat) (l : List ByteArray) (s : ByteArray) (w : World) (h2 : w.cell? ⟨p, 2, none⟩ = some (.slice A l.length c)) (hs : Ss w (.slice A l.length c) l) :
    Calls Tryz.prog 217 #[.string s, .pointer (some ⟨p, 0, none⟩)] w (VMk (.int .i64 (placeN s l 0)) w) := by
  have HI := Lib.hid (cIndex_any A c l s w hs)
  clear hs
  generalize placeN s l 0 = r at *
  go_enter Tryz.func217, Tryz.ntmps217
  go_wp2_with (go_at_call 218; refine HI.out.mono ?_; rintro e w1 ⟨rfl, rfl⟩)
  go_ret
  exact ⟨rfl, Below.refl _ _⟩
set_option maxHeartbeats 1000000 in
theorem rightEnum_any (x : Fld) (A : Option Addr) (c : Nat) (w : World) (h : Ss w (.slice A x.en.length c) x.en) : Calls Tryz.prog 176 #[agFl x A c] w (VMk (.bool (enumR x)) w) := by
  have hm : x.en.length ≤ maxLen := by
    obtain ⟨A', c', he, hm, -⟩ := h.open
    exact hm
  unfold maxLen at hm
  have hb0 := alloc1 w (.cells #[.string x.f.name, .int .i64 x.f.kind, .slice A x.en.length c, .int .i64 x.y.k, .int .i64 x.y.i, .bool x.y.b, .string x.y.s, .float .f64 x.y.n] 72)
  have c2 : (w.alloc (.cells #[.string x.f.name, .int .i64 x.f.kind, .slice A x.en.length c, .int .i64 x.y.k, .int .i64 x.y.i, .bool x.y.b, .string x.y.s, .float .f64 x.y.n] 72)).cell? ⟨w.heap.size, 2, none⟩ = some (.slice A x.en.length c) := (cell_of_row _ _ 2 _ _ (0, 0) (heap_alloc_new w _)).trans rfl
  have hlt := World.block_lt_of_cell? _ _ c2
  have ho := once_Str (fun s => placeN s x.en 0) w.heap.size A c x.en _ (h.below hb0 (Nat.le_refl _)) (fun s hs W hW => clo_enum w.heap.size A c x.en s W (keepc hW hlt c2) (h.below (bel2 hb0 hW) (Nat.le_refl _)))
  have he := fun W hW => each_Str (fun s => decide ((s.size : Int) ≤ 32)) A c x.en W (h.below (bel2 hb0 hW) (Nat.le_refl _)) (fun s hs W2 hW2 => short_Str s W2)
  have HO := Lib.hid ho
  have HE := Lib.hid he
  have HQ := Lib.hid (fun (w1 : World) (hb1 : Below (w.alloc (.cells #[.string x.f.name, .int .i64 x.f.kind, .slice A x.en.length c, .int .i64 x.y.k, .int .i64 x.y.i, .bool x.y.b, .string x.y.s, .float .f64 x.y.n] 72)).heap.size (w.alloc (.cells #[.string x.f.name, .int .i64 x.f.kind, .slice A x.en.length c, .int .i64 x.y.k, .int .i64 x.y.i, .bool x.y.b, .string x.y.s, .float .f64 x.y.n] 72)) w1) => (show w1.cell? ⟨w.heap.size, 2, none⟩ = some (.slice A x.en.length c) from keepc hb1 hlt c2))
  have hon : onceN x.en = onceF (fun s => placeN s x.en 0) x.en 0 := by
    have h := onceN_of (fun s : ByteArray => s) x.en
    rwa [List.map_id'] at h
  unfold enumR
  rw [hon]
  clear h ho he c2 hb0 hlt hon
  generalize onceF (fun s => placeN s x.en 0) x.en 0 = b2 at *
  generalize x.en.all (fun s => decide ((s.size : Int) ≤ 32)) = b3 at *
  have hemp : x.en.isEmpty = ((x.en.length : Int) == 0) := by cases x.en <;> simp <;> omega
  rw [hemp]
  clear hemp
  have hsf := fun (w : World) (a : Addr) (m : Mode) (b : Nat) => run_store Tryz.prog w a (.float .f64 b) m rfl
  go_enter Tryz.func176, Tryz.ntmps176
  by_cases h0 : x.en.length = 0
  · rw [h0]
    have h0i : ((x.en.length : Int) == 0) = true := by rw [h0]; rfl
    go_wp2
    go_ret
    exact ⟨ret_bool (by simp), alloc1 w _⟩
  · have hz : ((x.en.length : Int) == 0) = false := beq_eq_false_iff_ne.2 (by omega)
    rw [hz]
    by_cases h3 : x.f.kind = 3
    · have hk : (x.f.kind == 3) = true := beq_iff_eq.2 h3
      rw [hk]
      clear h3
      by_cases h4 : (x.en.length : Int) ≤ 4
      · have hd : decide ((x.en.length : Int) ≤ 4) = true := decide_eq_true h4
        rw [hd]
        rcases b2 with _ | _
        all_goals
          go_wp2_with (first | fail | (go_at_call 216; refine HO.out.mono ?_; rintro e w1 ⟨rfl, hb1⟩; have hq := HQ.out _ hb1) | (go_at_call 219; refine (HE.out _ hb1).mono ?_; rintro e w2 ⟨rfl, hb2⟩))
          go_ret
          first | exact ⟨ret_bool (by simp), bel2 (alloc1 w _) hb1⟩ | exact ⟨ret_bool (by simp), bel2 (bel2 (alloc1 w _) hb1) hb2⟩
      · have hd : decide ((x.en.length : Int) ≤ 4) = false := decide_eq_false h4
        rw [hd]
        go_wp2
        go_ret
        exact ⟨ret_bool (by first | (simp; done) | (simp; omega)), alloc1 w _⟩
    · have hk : (x.f.kind == 3) = false := beq_eq_false_iff_ne.2 h3
      rw [hk]
      go_wp2
      go_ret
      exact ⟨ret_bool (by first | (simp; done) | (simp; omega)), alloc1 w _⟩
end Go.Proofs.YtkahhoefbphllaaGreat

/- Layer 6: a field by itself, an effect by itself, by the program. -/
namespace Go.Proofs.YtkahhoefbphllaaGreat
open Go.RowKit
set_option linter.unusedVariables false
set_option linter.unusedSimpArgs false
set_option maxRecDepth 20000

/-- a contract's cells in block b -/
abbrev bxC (nm : ByteArray) (FA : Option Addr) (fn fc : Nat) (SA : Option Addr) (sn sc : Nat) (MA : Option Addr) (mn mc : Nat) : Obj := .cells #[.string nm, .slice FA fn fc, .slice SA sn sc, .slice MA mn mc] 33
def BxC (w : World) (b : Nat) (nm : ByteArray) (FA : Option Addr) (fn fc : Nat) (SA : Option Addr) (sn sc : Nat) (MA : Option Addr) (mn mc : Nat) : Prop :=
  w.cell? ⟨b, 0, none⟩ = some (.string nm) ∧ w.cell? ⟨b, 1, none⟩ = some (.slice FA fn fc) ∧ w.cell? ⟨b, 2, none⟩ = some (.slice SA sn sc) ∧ w.cell? ⟨b, 3, none⟩ = some (.slice MA mn mc)
theorem BxC.lt {w : World} {b : Nat} {nm : ByteArray} {FA : Option Addr} {fn fc : Nat} {SA : Option Addr} {sn sc : Nat} {MA : Option Addr} {mn mc : Nat} (h : BxC w b nm FA fn fc SA sn sc MA mn mc) : b < w.heap.size := World.block_lt_of_cell? _ _ h.1
theorem BxC.below {w w' : World} {b : Nat} {nm : ByteArray} {FA : Option Addr} {fn fc : Nat} {SA : Option Addr} {sn sc : Nat} {MA : Option Addr} {mn mc : Nat} (h : BxC w b nm FA fn fc SA sn sc MA mn mc) (hb : Below w.heap.size w w') : BxC w' b nm FA fn fc SA sn sc MA mn mc :=
  ⟨keepc hb h.lt h.1, keepc hb h.lt h.2.1, keepc hb h.lt h.2.2.1, keepc hb h.lt h.2.2.2⟩
theorem BxC.new (w : World) (nm : ByteArray) (FA : Option Addr) (fn fc : Nat) (SA : Option Addr) (sn sc : Nat) (MA : Option Addr) (mn mc : Nat) : BxC (w.alloc (bxC nm FA fn fc SA sn sc MA mn mc)) w.heap.size nm FA fn fc SA sn sc MA mn mc := by
  have h := heap_alloc_new w (bxC nm FA fn fc SA sn sc MA mn mc)
  exact ⟨(cell_of_row _ _ 0 _ _ (0, 0) h).trans rfl, (cell_of_row _ _ 1 _ _ (0, 0) h).trans rfl, (cell_of_row _ _ 2 _ _ (0, 0) h).trans rfl, (cell_of_row _ _ 3 _ _ (0, 0) h).trans rfl⟩
abbrev bxFl (x : Fld) (A : Option Addr) (c : Nat) : Obj := .cells #[.string x.f.name, .int .i64 x.f.kind, .slice A x.en.length c, .int .i64 x.y.k, .int .i64 x.y.i, .bool x.y.b, .string x.y.s, .float .f64 x.y.n] 72
theorem Fdp_new (w : World) (x : Fld) (A : Option Addr) (c : Nat) : Fdp (w.alloc (bxFl x A c)) ⟨w.heap.size, 0, none⟩ x.f.name x.f.kind A x.en.length c x.y := by
  have h := heap_alloc_new w (bxFl x A c)
  exact ⟨(cell_of_row _ _ 0 _ _ (0, 0) h).trans rfl, (cell_of_row _ _ 1 _ _ (0, 0) h).trans rfl, (cell_of_row _ _ 2 _ _ (0, 0) h).trans rfl, (cell_of_row _ _ 3 _ _ (0, 0) h).trans rfl, (cell_of_row _ _ 4 _ _ (0, 0) h).trans rfl, (cell_of_row _ _ 5 _ _ (0, 0) h).trans rfl, (cell_of_row _ _ 6 _ _ (0, 0) h).trans rfl, (cell_of_row _ _ 7 _ _ (0, 0) h).trans rfl⟩
theorem al_lt (w : World) (o : Obj) : w.heap.size < (w.alloc o).heap.size := by simp
set_option maxHeartbeats 1000000 in
theorem rightField_any (x : Fld) (A : Option Addr) (c : Nat) (w : World) (h : Ss w (.slice A x.en.length c) x.en) : Calls Tryz.prog 123 #[agFl x A c] w (VMk (.bool (fieldR x)) w) := by
  have HN := Lib.hid (fun W => isName_any x.f.name W)
  have HE := Lib.hid (fun W (hb : Below w.heap.size w W) => rightEnum_any x A c W (h.below hb (Nat.le_refl _)))
  have HF := Lib.hid (fun W (hb : Below w.heap.size w W) => Fits_val x.y x.f.name x.f.kind (.slice A x.en.length c) x.y x.en W (h.below hb (Nat.le_refl _)))
  have HK := Lib.hid (fun W (hb : Below (w.alloc (bxFl x A c)).heap.size (w.alloc (bxFl x A c)) W) => (Fdp_new w x A c).below hb (al_lt w _))
  have HB := Lib.hid (alloc1 w (bxFl x A c))
  have hsf := fun (w : World) (a : Addr) (m : Mode) (b : Nat) => run_store Tryz.prog w a (.float .f64 b) m rfl
  unfold fieldR
  clear h
  generalize nameB x.f.name = b1 at *
  generalize enumR x = b2 at *
  generalize fitsV x.y x.f.kind x.en = z at *
  go_enter Tryz.func123, Tryz.ntmps123
  rcases b1 with _ | _ <;> rcases b2 with _ | _
  all_goals
    go_wp2_with (first | fail | (go_at_call 65; refine (HN.out _).mono ?_; rintro e w1 ⟨rfl, rfl⟩) | (go_at_call 176; refine (HE.out _ HB.out).mono ?_; rintro e w1 ⟨rfl, hb1⟩; obtain ⟨q0, q1, q2, q3, q4, q5, q6, q7⟩ := HK.out _ hb1) | (go_at_call 154; refine (HF.out _ (bel2 HB.out hb1)).mono ?_; rintro e w2 ⟨rfl, hb2⟩))
    go_ret
    first | exact ⟨ret_bool (by simp), alloc1 w _⟩ | exact ⟨ret_bool (by simp), bel2 (alloc1 w _) hb1⟩ | exact ⟨ret_bool (by simp), bel2 (bel2 (alloc1 w _) hb1) hb2⟩
theorem clo_Effect (p : Nat) (nm : ByteArray) (x : Eff) (A : Option Addr) (c : Nat) (w : World) (h : w.cell? ⟨p, 0, none⟩ = some (.string nm)) :
    Calls Tryz.prog 250 #[agEf x A c, .pointer (some ⟨p, 0, none⟩)] w (VMk (.bool (x.field.toList == nm.toList)) w) := by
  have hp : p < w.heap.size := World.block_lt_of_cell? w _ h
  generalize hb : (x.field.toList == nm.toList) = b
  have hne : ¬ w.heap.size = p := by omega
  go_enter Tryz.func250, Tryz.ntmps250
  go_wp2
  go_ret
  exact ⟨rfl, (Below.refl _ _).alloc (Nat.le_refl _) _⟩
theorem first_Effect (nm : ByteArray) : ∀ (l : List Eff) (i : Nat), firstB (fun x => x.field.toList == nm.toList) l i = placeN nm (l.map Eff.field) i
  | [], _ => rfl
  | x :: l, i => by
    rw [firstB, List.map_cons, placeN, first_Effect nm l (i + 1)]
set_option maxHeartbeats 1000000 in
theorem effectOn_any (A : Option Addr) (c : Nat) (l : List Eff) (nm : ByteArray) (w : World) (h : EffK w A c l) :
    Calls Tryz.prog 224 #[.slice A l.length c, .string nm] w (VMk (.int .i64 (placeN nm (l.map Eff.field) 0)) w) := by
  have hb2 := alloc1 w (.cells #[.string nm] 9)
  have hcell : (w.alloc (.cells #[.string nm] 9)).cell? ⟨w.heap.size, 0, none⟩ = some (.string nm) := (cell_of_row _ _ 0 _ _ (0, 0) (heap_alloc_new w _)).trans rfl
  have hi := idx_Effect (fun x => x.field.toList == nm.toList) w.heap.size A c l _ (EffK.below h hb2) (fun x _ A c W hW _ => clo_Effect w.heap.size nm x A c W (keepc hW (World.block_lt_of_cell? _ _ hcell) hcell))
  rw [first_Effect] at hi
  have HI := Lib.hid hi
  have HB := Lib.hid hb2
  clear hi hb2 hcell h
  go_enter Tryz.func224, Tryz.ntmps224
  go_wp2_with (go_at_call 249; refine HI.out.mono ?_; rintro e w1 ⟨rfl, hb1⟩)
  go_ret
  exact ⟨rfl, HB.out.trans (hb1.mono HB.out.size)⟩
/-- the closure that tells where the first effect on that field stands -/
theorem clo1_Effect (p : Nat) (EA : Option Addr) (ec : Nat) (l : List Eff) (x : Eff) (A : Option Addr) (c : Nat) (w : World) (h0 : w.cell? ⟨p, 0, none⟩ = some (.slice EA l.length ec)) (h : EffK w EA ec l) :
    Calls Tryz.prog 223 #[agEf x A c, .pointer (some ⟨p, 0, none⟩)] w (VMk (.int .i64 (placeN x.field (l.map Eff.field) 0)) w) := by
  have hp : p < w.heap.size := World.block_lt_of_cell? w _ h0
  have hne : ¬ w.heap.size = p := by omega
  have HC := Lib.hid (fun o => effectOn_any EA ec l x.field (w.alloc o) (EffK.below h (alloc1 w o)))
  clear h
  generalize placeN x.field (l.map Eff.field) 0 = r at *
  go_enter Tryz.func223, Tryz.ntmps223
  go_wp2_with (go_at_call 224; refine (HC.out _).mono ?_; rintro e w1 ⟨rfl, hb1⟩)
  go_ret
  exact ⟨rfl, bel2 (alloc1 w _) hb1⟩
set_option maxHeartbeats 1000000 in
theorem tells_any (e : Ex) (A : Option Addr) (c : Nat) (ct : Ctr) (FA : Option Addr) (fc : Nat) (SA : Option Addr) (sc : Nat) (MA : Option Addr) (mc : Nat) (kind : Int) (w : World) (hx : ExE w A c e) (h : CtK w ct FA fc SA sc MA mc) :
    Calls Tryz.prog 183 #[agX e.op A e.kids.length c e.name e.val, agC ct.name FA ct.fs.length fc SA ct.ss.length sc MA ct.ms.length mc, .int .i64 kind] w (VMk (.bool (tellsR e (ct.fs.map Fld.f) kind)) w) := by
  obtain ⟨D, hx⟩ := hx
  have hc := (fun o1 o2 => eCheck_any FA fc (ct.fs.map Fld.f) D e A c ((w.alloc o1).alloc o2) (hx.below (bel2 (alloc1 w o1) (alloc1 _ o2)) (Nat.le_refl _)) ((h.below (bel2 (alloc1 w o1) (alloc1 _ o2))).f.fdk))
  unfold tellsR
  rw [List.length_map] at hc
  generalize checkX e (ct.fs.map Fld.f) = q at *
  obtain ⟨k, x⟩ := q
  have HC := Lib.hid hc
  clear hc hx h
  have hsf := fun (w : World) (a : Addr) (m : Mode) (b : Nat) => run_store Tryz.prog w a (.float .f64 b) m rfl
  go_enter Tryz.func183, Tryz.ntmps183
  by_cases h0 : x = 0
  · have hz : (x == 0) = true := by rw [h0]; rfl
    clear h0
    go_wp2_with (go_at_call 221; refine (HC.out _ _).mono ?_; rintro e w1 ⟨rfl, hb1⟩)
    go_ret
    exact ⟨ret_bool (by simp [hz]), bel2 (bel2 (alloc1 w _) (alloc1 _ _)) hb1⟩
  · have hz : (x == 0) = false := by simpa using h0
    clear h0
    go_wp2_with (go_at_call 221; refine (HC.out _ _).mono ?_; rintro e w1 ⟨rfl, hb1⟩)
    go_ret
    exact ⟨ret_bool (by simp [hz]), bel2 (bel2 (alloc1 w _) (alloc1 _ _)) hb1⟩
end Go.Proofs.YtkahhoefbphllaaGreat

/- Layer 6: lists behind their counts, by the program. (Made by gen/gencput.py.) -/
namespace Go.Proofs.YtkahhoefbphllaaGreat
open Go.RowKit
set_option linter.unusedVariables false
set_option linter.unusedSimpArgs false
set_option maxRecDepth 20000

end Go.Proofs.YtkahhoefbphllaaGreat

/- Layer 6: effects and moves by themselves, and all of them, by the program. (Made by gen/gencmv.py.) -/
namespace Go.Proofs.YtkahhoefbphllaaGreat
open Go.RowKit
set_option linter.unusedVariables false
set_option linter.unusedSimpArgs false
set_option maxRecDepth 20000

/-- block b holds these cells -/
def BxA (w : World) (b : Nat) (cs : List Value) : Prop := b < w.heap.size ∧ ∀ (i : Nat) (x : Value), cs[i]? = some x → w.cell? ⟨b, i, none⟩ = some x
theorem BxA.below {w w' : World} {b : Nat} {cs : List Value} (h : BxA w b cs) (hb : Below w.heap.size w w') : BxA w' b cs := ⟨Nat.lt_of_lt_of_le h.1 hb.size, fun i x hx => keepc hb h.1 (h.2 i x hx)⟩
theorem BxA.new (w : World) (cs : List Value) (t : TypeId) : BxA (w.alloc (.cells cs.toArray t)) w.heap.size cs := ⟨by simp, fun i x hx => (cell_of_row _ _ i _ _ (0, 0) (heap_alloc_new w _)).trans (by simpa using hx)⟩
abbrev csC (nm : ByteArray) (FA : Option Addr) (fn fc : Nat) (SA : Option Addr) (sn sc : Nat) (MA : Option Addr) (mn mc : Nat) : List Value := [.string nm, .slice FA fn fc, .slice SA sn sc, .slice MA mn mc]
abbrev csEf (x : Eff) (A : Option Addr) (c : Nat) : List Value := [.string x.field, .int .i64 x.e.op, .slice A x.e.kids.length c, .string x.e.name, .int .i64 x.e.val.k, .int .i64 x.e.val.i, .bool x.e.val.b, .string x.e.val.s, .float .f64 x.e.val.n]
abbrev csMv (x : Mv) (A : Option Addr) (c : Nat) (EA : Option Addr) (ec : Nat) : List Value := [.string x.name, .int .i64 x.frm, .int .i64 x.too, .int .i64 x.guard.op, .slice A x.guard.kids.length c, .string x.guard.name, .int .i64 x.guard.val.k, .int .i64 x.guard.val.i, .bool x.guard.val.b, .string x.guard.val.s, .float .f64 x.guard.val.n, .slice EA x.effs.length ec, .int .i64 x.org]
theorem find_map (nm : ByteArray) (l : List Fld) : placeN nm (l.map fun x => x.f.name) 0 = findX nm (l.map Fld.f) 0 := by
  rw [findX_place, List.map_map]; rfl
theorem size1 (w : World) (o : Obj) : (w.alloc o).heap.size = w.heap.size + 1 := by simp
set_option maxHeartbeats 1000000 in
theorem rightEffect_any (x : Eff) (A : Option Addr) (c : Nat) (ct : Ctr) (FA : Option Addr) (fc : Nat) (SA : Option Addr) (sc : Nat) (MA : Option Addr) (mc : Nat) (w : World) (hx : ExE w A c x.e) (h : CtK w ct FA fc SA sc MA mc) :
    Calls Tryz.prog 227 #[agC ct.name FA ct.fs.length fc SA ct.ss.length sc MA ct.ms.length mc, agEf x A c] w (VMk (.bool (effR (ct.fs.map Fld.f) x)) w) := by
  have HB := Lib.hid (bel2 (alloc1 w (bxC ct.name FA ct.fs.length fc SA ct.ss.length sc MA ct.ms.length mc)) (alloc1 (w.alloc (bxC ct.name FA ct.fs.length fc SA ct.ss.length sc MA ct.ms.length mc)) (.cells (csEf x A c).toArray 77)))
  have HC := Lib.hid ((BxA.new w (csC ct.name FA ct.fs.length fc SA ct.ss.length sc MA ct.ms.length mc) 33).below (alloc1 (w.alloc (bxC ct.name FA ct.fs.length fc SA ct.ss.length sc MA ct.ms.length mc)) (.cells (csEf x A c).toArray 77)))
  have HE := Lib.hid (BxA.new (w.alloc (bxC ct.name FA ct.fs.length fc SA ct.ss.length sc MA ct.ms.length mc)) (csEf x A c) 77)
  have hf := cField_any ct FA fc SA sc MA mc x.field _ (h.below HB.out)
  have htl := fun k W (hb : Below w.heap.size w W) => tells_any x.e A c ct FA fc SA sc MA mc k W (hx.below hb) (h.below hb)
  rw [find_map] at hf
  have HFK := Lib.hid h.f
  have hge := placeN_ge x.field ((ct.fs.map Fld.f).map Fd.name) 0
  have hlt := placeN_lt x.field ((ct.fs.map Fld.f).map Fd.name) 0
  rw [← findX_place] at hge hlt
  rw [List.length_map, List.length_map] at hlt
  rw [size1] at HE
  unfold effR
  have hm := h.f.2.1
  unfold maxLen at hm
  clear h hx
  generalize findX x.field (ct.fs.map Fld.f) 0 = i at *
  have HF := Lib.hid hf
  have HT := Lib.hid htl
  clear hf htl
  have hsf := fun (w : World) (a : Addr) (m : Mode) (b : Nat) => run_store Tryz.prog w a (.float .f64 b) m rfl
  by_cases h0 : 0 ≤ i
  · obtain ⟨k, rfl⟩ := Int.eq_ofNat_of_zero_le h0
    have hk : k < ct.fs.length := by omega
    have hd : decide ((0 : Int) ≤ (k : Int)) = true := decide_eq_true h0
    have hkd : ((((ct.fs.map Fld.f)[((k : Int)).toNat]?).map Fd.kind).getD 0) = ct.fs[k].f.kind := by
      rw [Int.toNat_natCast, List.getElem?_map, List.getElem?_eq_getElem hk]; rfl
    rw [hkd, hd, Bool.true_and]
    have hki : (k : Int) < (ct.fs.length : Int) := by omega
    obtain ⟨ad, e1, e2, fp⟩ := HFK.out.2.2.2 k hk
    have HFP := Lib.hid fp
    clear hkd hge hlt fp
    generalize ct.fs[k] = y at *
    generalize hbv : tellsR x.e (ct.fs.map Fld.f) y.f.kind = b at *
    have HT2 := Lib.hid (fun W hb => (show Calls _ _ _ _ (VMk (.bool b) W) from hbv ▸ HT.out y.f.kind W hb))
    clear hbv HT HFK
    subst e1
    go_enter Tryz.func227, Tryz.ntmps227
    go_wp2_with (first | fail | (go_at_call 121; refine HF.out.mono ?_; rintro e w1 ⟨rfl, hb1⟩))
    have hS0 : ∀ W, Below w1.heap.size w1 W → (fun W => Below w1.heap.size w1 W ∧ W.cell? ⟨(ad.add (k * 8)).block, (ad.add (k * 8)).off + 1, none⟩ = some (.int .i64 y.f.kind) ∧ W.cell? ⟨w.heap.size, 0, none⟩ = some (.string ct.name) ∧ W.cell? ⟨w.heap.size, 1, none⟩ = some (.slice (some ad) ct.fs.length fc) ∧ W.cell? ⟨w.heap.size, 2, none⟩ = some (.slice SA ct.ss.length sc) ∧ W.cell? ⟨w.heap.size, 3, none⟩ = some (.slice MA ct.ms.length mc) ∧ W.cell? ⟨w.heap.size + 1, 0, none⟩ = some (.string x.field) ∧ W.cell? ⟨w.heap.size + 1, 1, none⟩ = some (.int .i64 x.e.op) ∧ W.cell? ⟨w.heap.size + 1, 2, none⟩ = some (.slice A x.e.kids.length c) ∧ W.cell? ⟨w.heap.size + 1, 3, none⟩ = some (.string x.e.name) ∧ W.cell? ⟨w.heap.size + 1, 4, none⟩ = some (.int .i64 x.e.val.k) ∧ W.cell? ⟨w.heap.size + 1, 5, none⟩ = some (.int .i64 x.e.val.i) ∧ W.cell? ⟨w.heap.size + 1, 6, none⟩ = some (.bool x.e.val.b) ∧ W.cell? ⟨w.heap.size + 1, 7, none⟩ = some (.string x.e.val.s) ∧ W.cell? ⟨w.heap.size + 1, 8, none⟩ = some (.float .f64 x.e.val.n)) W := fun W hW => by
      obtain ⟨PA, pc, hq, -⟩ := HFP.out.below (bel2 HB.out (bel2 hb1 hW)) (by rw [block_add]; exact e2)
      exact ⟨hW, hq.2.1, (HC.out.below (bel2 hb1 hW)).2 0 _ rfl, (HC.out.below (bel2 hb1 hW)).2 1 _ rfl, (HC.out.below (bel2 hb1 hW)).2 2 _ rfl, (HC.out.below (bel2 hb1 hW)).2 3 _ rfl, (HE.out.below (bel2 hb1 hW)).2 0 _ rfl, (HE.out.below (bel2 hb1 hW)).2 1 _ rfl, (HE.out.below (bel2 hb1 hW)).2 2 _ rfl, (HE.out.below (bel2 hb1 hW)).2 3 _ rfl, (HE.out.below (bel2 hb1 hW)).2 4 _ rfl, (HE.out.below (bel2 hb1 hW)).2 5 _ rfl, (HE.out.below (bel2 hb1 hW)).2 6 _ rfl, (HE.out.below (bel2 hb1 hW)).2 7 _ rfl, (HE.out.below (bel2 hb1 hW)).2 8 _ rfl⟩
    have HKP := Lib.hid hS0
    have HS0 := Lib.hid (hS0 w1.drew (Below.refl _ _).drew)
    have HB1 := Lib.hid (bel2 HB.out hb1)
    clear hS0 hb1
    go_region_held3 (fun W => Below w1.heap.size w1 W ∧ W.cell? ⟨(ad.add (k * 8)).block, (ad.add (k * 8)).off + 1, none⟩ = some (.int .i64 y.f.kind) ∧ W.cell? ⟨w.heap.size, 0, none⟩ = some (.string ct.name) ∧ W.cell? ⟨w.heap.size, 1, none⟩ = some (.slice (some ad) ct.fs.length fc) ∧ W.cell? ⟨w.heap.size, 2, none⟩ = some (.slice SA ct.ss.length sc) ∧ W.cell? ⟨w.heap.size, 3, none⟩ = some (.slice MA ct.ms.length mc) ∧ W.cell? ⟨w.heap.size + 1, 0, none⟩ = some (.string x.field) ∧ W.cell? ⟨w.heap.size + 1, 1, none⟩ = some (.int .i64 x.e.op) ∧ W.cell? ⟨w.heap.size + 1, 2, none⟩ = some (.slice A x.e.kids.length c) ∧ W.cell? ⟨w.heap.size + 1, 3, none⟩ = some (.string x.e.name) ∧ W.cell? ⟨w.heap.size + 1, 4, none⟩ = some (.int .i64 x.e.val.k) ∧ W.cell? ⟨w.heap.size + 1, 5, none⟩ = some (.int .i64 x.e.val.i) ∧ W.cell? ⟨w.heap.size + 1, 6, none⟩ = some (.bool x.e.val.b) ∧ W.cell? ⟨w.heap.size + 1, 7, none⟩ = some (.string x.e.val.s) ∧ W.cell? ⟨w.heap.size + 1, 8, none⟩ = some (.float .f64 x.e.val.n)) (first | exact HS0.out | exact HKP.out _ HB2.out) (first
      | (go_at_call 183; refine (HT2.out _ (bel2 HB1.out (Below.refl _ _).drew)).mono ?_; rintro e w2 ⟨rfl, hb2⟩; have HB2 := Lib.hid (bel2 (Below.refl w1.heap.size w1).drew hb2)))
    go_wp2
    go_ret
    exact ⟨ret_bool (by simp), bel2 HB1.out HB2.out⟩
  · have hd : decide ((0 : Int) ≤ i) = false := decide_eq_false h0
    rw [hd, Bool.false_and]
    have hneg : i < 0 := by omega
    clear h0 hge hlt
    go_enter Tryz.func227, Tryz.ntmps227
    go_wp2_with (first | fail | (go_at_call 121; refine HF.out.mono ?_; rintro e w1 ⟨rfl, hb1⟩))
    go_quiet (fail)
    go_wp2
    go_ret
    exact ⟨ret_bool (by first | (simp; done) | (simp; omega)), below_drewN (bel2 HB.out hb1) _⟩
/-- the closure that tells whether an effect is right -/
theorem clo2_Effect (p : Nat) (x : Eff) (A : Option Addr) (c : Nat) (ct : Ctr) (FA : Option Addr) (fc : Nat) (SA : Option Addr) (sc : Nat) (MA : Option Addr) (mc : Nat) (w : World) (hbx : BxA w p (csC ct.name FA ct.fs.length fc SA ct.ss.length sc MA ct.ms.length mc)) (hx : ExE w A c x.e) (h : CtK w ct FA fc SA sc MA mc) :
    Calls Tryz.prog 226 #[agEf x A c, .pointer (some ⟨p, 0, none⟩)] w (VMk (.bool (effR (ct.fs.map Fld.f) x)) w) := by
  have hp : p < w.heap.size := hbx.1
  have hne : ¬ w.heap.size = p := by omega
  have h0 := hbx.2 0 _ rfl
  have h1 := hbx.2 1 _ rfl
  have h2 := hbx.2 2 _ rfl
  have h3 := hbx.2 3 _ rfl
  have HC := Lib.hid (fun o => rightEffect_any x A c ct FA fc SA sc MA mc (w.alloc o) (hx.below (alloc1 w o)) (h.below (alloc1 w o)))
  clear h hx hbx
  generalize effR (ct.fs.map Fld.f) x = r at *
  have hsf := fun (w : World) (a : Addr) (m : Mode) (b : Nat) => run_store Tryz.prog w a (.float .f64 b) m rfl
  go_enter Tryz.func226, Tryz.ntmps226
  go_wp2_with (go_at_call 227; refine (HC.out _).mono ?_; rintro e w1 ⟨rfl, hb1⟩)
  go_ret
  exact ⟨rfl, bel2 (alloc1 w _) hb1⟩
set_option maxHeartbeats 1000000 in
theorem rightEffects_any (l : List Eff) (EA : Option Addr) (ec : Nat) (ct : Ctr) (FA : Option Addr) (fc : Nat) (SA : Option Addr) (sc : Nat) (MA : Option Addr) (mc : Nat) (w : World) (hl : EffK w EA ec l) (h : CtK w ct FA fc SA sc MA mc) :
    Calls Tryz.prog 184 #[agC ct.name FA ct.fs.length fc SA ct.ss.length sc MA ct.ms.length mc, .slice EA l.length ec] w (VMk (.bool (effsR (ct.fs.map Fld.f) l)) w) := by
  have hm := hl.2.1
  have hm1 := hl.1
  unfold maxLen at hm
  have hlen : l.length ≤ 9223372036854775807 := by omega
  have hb0 := (bel2 (alloc1 w (bxC ct.name FA ct.fs.length fc SA ct.ss.length sc MA ct.ms.length mc)) (alloc1 (w.alloc (bxC ct.name FA ct.fs.length fc SA ct.ss.length sc MA ct.ms.length mc)) (.cells #[.slice EA l.length ec] 78)))
  have hc := ((BxA.new w (csC ct.name FA ct.fs.length fc SA ct.ss.length sc MA ct.ms.length mc) 33).below (alloc1 (w.alloc (bxC ct.name FA ct.fs.length fc SA ct.ss.length sc MA ct.ms.length mc)) (.cells #[.slice EA l.length ec] 78)))
  have he := (BxA.new (w.alloc (bxC ct.name FA ct.fs.length fc SA ct.ss.length sc MA ct.ms.length mc)) [.slice EA l.length ec] 78)
  rw [size1] at he
  have ho := once_Effect (fun x => placeN x.field (l.map Eff.field) 0) (w.heap.size + 1) EA ec l _ (EffK.below hl hb0) (fun x hx A c W hW => clo1_Effect (w.heap.size + 1) EA ec l x A c W ((he.below hW).2 0 _ rfl) (EffK.below hl (bel2 hb0 hW)))
  have hea := fun W hW => each_Effect w.heap.size (effR (ct.fs.map Fld.f)) EA ec l W (EffK.below hl (bel2 hb0 hW)) (fun x hx A c W2 hW2 hdeep => clo2_Effect w.heap.size x A c ct FA fc SA sc MA mc W2 (hc.below (bel2 hW hW2)) hdeep (h.below (bel2 hb0 (bel2 hW hW2))))
  have HO := Lib.hid ho
  have HE := Lib.hid hea
  have HQ := Lib.hid (fun w1 (hb1 : Below _ _ w1) => (he.below hb1).2 0 _ rfl)
  have HB := Lib.hid hb0
  unfold effsR
  rw [onceN_of]
  clear h ho he hc hea hb0 hl hm hm1
  generalize onceF (fun x => placeN x.field (l.map Eff.field) 0) l 0 = b2 at *
  generalize l.all (effR (ct.fs.map Fld.f)) = b3 at *
  go_enter Tryz.func184, Tryz.ntmps184
  by_cases h4 : (l.length : Int) ≤ 4
  · have hd : decide ((l.length : Int) ≤ 4) = true := decide_eq_true h4
    rw [hd]
    rcases b2 with _ | _
    all_goals
      go_wp2_with (first | fail | (go_at_call 222; refine HO.out.mono ?_; rintro e w1 ⟨rfl, hb1⟩; have hq := HQ.out _ hb1) | (go_at_call 225; refine (HE.out _ hb1).mono ?_; rintro e w2 ⟨rfl, hb2⟩))
      go_ret
      first | exact ⟨ret_bool (by simp), bel2 HB.out hb1⟩ | exact ⟨ret_bool (by simp), bel2 (bel2 HB.out hb1) hb2⟩
  · have hd : decide ((l.length : Int) ≤ 4) = false := decide_eq_false h4
    rw [hd]
    go_wp2
    go_ret
    exact ⟨ret_bool (by first | (simp; done) | (simp; omega)), HB.out⟩
set_option maxHeartbeats 2000000 in
theorem rightMove_any (x : Mv) (A : Option Addr) (c : Nat) (EA : Option Addr) (ec : Nat) (ct : Ctr) (FA : Option Addr) (fc : Nat) (SA : Option Addr) (sc : Nat) (MA : Option Addr) (mc : Nat) (w : World) (hx : ExE w A c x.guard ∧ EffK w EA ec x.effs) (h : CtK w ct FA fc SA sc MA mc) :
    Calls Tryz.prog 133 #[agC ct.name FA ct.fs.length fc SA ct.ss.length sc MA ct.ms.length mc, agMv x A c EA ec] w (VMk (.bool (moveR ct x)) w) := by
  have hm := h.s.2.1
  have hm1 := h.s.1
  unfold maxLen at hm
  have hlen : ct.ss.length ≤ 9223372036854775807 := by omega
  have hw : IntKind.i64.wrap ((ct.ss.length : Int) - 1) = (ct.ss.length : Int) - 1 := by rw [IntKind.wrap_i64]; omega
  have HB := Lib.hid (bel2 (alloc1 w (bxC ct.name FA ct.fs.length fc SA ct.ss.length sc MA ct.ms.length mc)) (alloc1 (w.alloc (bxC ct.name FA ct.fs.length fc SA ct.ss.length sc MA ct.ms.length mc)) (.cells (csMv x A c EA ec).toArray 80)))
  have HC := Lib.hid ((BxA.new w (csC ct.name FA ct.fs.length fc SA ct.ss.length sc MA ct.ms.length mc) 33).below (alloc1 (w.alloc (bxC ct.name FA ct.fs.length fc SA ct.ss.length sc MA ct.ms.length mc)) (.cells (csMv x A c EA ec).toArray 80)))
  have HM := Lib.hid (BxA.new (w.alloc (bxC ct.name FA ct.fs.length fc SA ct.ss.length sc MA ct.ms.length mc)) (csMv x A c EA ec) 80)
  rw [size1] at HM
  have HN := Lib.hid (fun W => isName_any x.name W)
  have HA1 := Lib.hid (fun W => among_any x.frm 0 ((ct.ss.length : Int) - 1) W)
  have HA2 := Lib.hid (fun W => among_any x.too 0 ((ct.ss.length : Int) - 1) W)
  have HA3 := Lib.hid (fun W => among_any x.org (-1) 3 W)
  have HT := Lib.hid (fun W (hb : Below w.heap.size w W) => tells_any x.guard A c ct FA fc SA sc MA mc 2 W (hx.1.below hb) (h.below hb))
  have HE := Lib.hid (fun W (hb : Below w.heap.size w W) => rightEffects_any x.effs EA ec ct FA fc SA sc MA mc W (EffK.below hx.2 hb) (h.below hb))
  unfold moveR
  clear h hx hm hm1
  generalize nameB x.name = b1 at *
  generalize (decide (0 ≤ x.frm) && decide (x.frm ≤ (ct.ss.length : Int) - 1)) = b2 at *
  generalize (decide (0 ≤ x.too) && decide (x.too ≤ (ct.ss.length : Int) - 1)) = b3 at *
  generalize (decide (-1 ≤ x.org) && decide (x.org ≤ 3)) = b4 at *
  generalize tellsR x.guard (ct.fs.map Fld.f) 2 = b5 at *
  generalize effsR (ct.fs.map Fld.f) x.effs = b6 at *
  have hsf := fun (w : World) (a : Addr) (m : Mode) (b : Nat) => run_store Tryz.prog w a (.float .f64 b) m rfl
  go_enter Tryz.func133, Tryz.ntmps133
  rcases b1 with _ | _
  · go_wp2_with (first | fail | (go_at_call 65; refine (HN.out _).mono ?_; rintro e w1 ⟨rfl, rfl⟩))
    go_ret
    exact ⟨ret_bool (by simp), HB.out⟩
  rcases b2 with _ | _
  · go_wp2_with (first | fail | (go_at_call 65; refine (HN.out _).mono ?_; rintro e w1 ⟨rfl, rfl⟩) | (first | (go_at_call_of 118 (x.frm); refine (HA1.out _).mono ?_; rintro e w1 ⟨rfl, rfl⟩) | (go_at_call_of 118 (x.too); refine (HA2.out _).mono ?_; rintro e w1 ⟨rfl, rfl⟩) | (go_at_call_of 118 (x.org); refine (HA3.out _).mono ?_; rintro e w1 ⟨rfl, rfl⟩)))
    go_ret
    exact ⟨ret_bool (by simp), HB.out⟩
  rcases b3 with _ | _
  · go_wp2_with (first | fail | (go_at_call 65; refine (HN.out _).mono ?_; rintro e w1 ⟨rfl, rfl⟩) | (first | (go_at_call_of 118 (x.frm); refine (HA1.out _).mono ?_; rintro e w1 ⟨rfl, rfl⟩) | (go_at_call_of 118 (x.too); refine (HA2.out _).mono ?_; rintro e w1 ⟨rfl, rfl⟩) | (go_at_call_of 118 (x.org); refine (HA3.out _).mono ?_; rintro e w1 ⟨rfl, rfl⟩)))
    go_ret
    exact ⟨ret_bool (by simp), HB.out⟩
  rcases b4 with _ | _
  · go_wp2_with (first | fail | (go_at_call 65; refine (HN.out _).mono ?_; rintro e w1 ⟨rfl, rfl⟩) | (first | (go_at_call_of 118 (x.frm); refine (HA1.out _).mono ?_; rintro e w1 ⟨rfl, rfl⟩) | (go_at_call_of 118 (x.too); refine (HA2.out _).mono ?_; rintro e w1 ⟨rfl, rfl⟩) | (go_at_call_of 118 (x.org); refine (HA3.out _).mono ?_; rintro e w1 ⟨rfl, rfl⟩)))
    go_ret
    exact ⟨ret_bool (by simp), HB.out⟩
  rcases b5 with _ | _
  · go_wp2_with (first | fail | (go_at_call 65; refine (HN.out _).mono ?_; rintro e w1 ⟨rfl, rfl⟩) | (first | (go_at_call_of 118 (x.frm); refine (HA1.out _).mono ?_; rintro e w1 ⟨rfl, rfl⟩) | (go_at_call_of 118 (x.too); refine (HA2.out _).mono ?_; rintro e w1 ⟨rfl, rfl⟩) | (go_at_call_of 118 (x.org); refine (HA3.out _).mono ?_; rintro e w1 ⟨rfl, rfl⟩)) | (go_at_call 183; refine (HT.out _ HB.out).mono ?_; rintro e w1 ⟨rfl, hb1⟩; have c0 := (HC.out.below hb1).2 0 _ rfl; have c1 := (HC.out.below hb1).2 1 _ rfl; have c2 := (HC.out.below hb1).2 2 _ rfl; have c3 := (HC.out.below hb1).2 3 _ rfl; have q0 := (HM.out.below hb1).2 0 _ rfl; have q1 := (HM.out.below hb1).2 1 _ rfl; have q2 := (HM.out.below hb1).2 2 _ rfl; have q3 := (HM.out.below hb1).2 3 _ rfl; have q4 := (HM.out.below hb1).2 4 _ rfl; have q5 := (HM.out.below hb1).2 5 _ rfl; have q6 := (HM.out.below hb1).2 6 _ rfl; have q7 := (HM.out.below hb1).2 7 _ rfl; have q8 := (HM.out.below hb1).2 8 _ rfl; have q9 := (HM.out.below hb1).2 9 _ rfl; have q10 := (HM.out.below hb1).2 10 _ rfl; have q11 := (HM.out.below hb1).2 11 _ rfl; have q12 := (HM.out.below hb1).2 12 _ rfl))
    go_ret
    exact ⟨ret_bool (by simp), bel2 HB.out hb1⟩
  rcases b6 with _ | _
  · go_wp2_with (first | fail | (go_at_call 65; refine (HN.out _).mono ?_; rintro e w1 ⟨rfl, rfl⟩) | (first | (go_at_call_of 118 (x.frm); refine (HA1.out _).mono ?_; rintro e w1 ⟨rfl, rfl⟩) | (go_at_call_of 118 (x.too); refine (HA2.out _).mono ?_; rintro e w1 ⟨rfl, rfl⟩) | (go_at_call_of 118 (x.org); refine (HA3.out _).mono ?_; rintro e w1 ⟨rfl, rfl⟩)) | (go_at_call 183; refine (HT.out _ HB.out).mono ?_; rintro e w1 ⟨rfl, hb1⟩; have c0 := (HC.out.below hb1).2 0 _ rfl; have c1 := (HC.out.below hb1).2 1 _ rfl; have c2 := (HC.out.below hb1).2 2 _ rfl; have c3 := (HC.out.below hb1).2 3 _ rfl; have q0 := (HM.out.below hb1).2 0 _ rfl; have q1 := (HM.out.below hb1).2 1 _ rfl; have q2 := (HM.out.below hb1).2 2 _ rfl; have q3 := (HM.out.below hb1).2 3 _ rfl; have q4 := (HM.out.below hb1).2 4 _ rfl; have q5 := (HM.out.below hb1).2 5 _ rfl; have q6 := (HM.out.below hb1).2 6 _ rfl; have q7 := (HM.out.below hb1).2 7 _ rfl; have q8 := (HM.out.below hb1).2 8 _ rfl; have q9 := (HM.out.below hb1).2 9 _ rfl; have q10 := (HM.out.below hb1).2 10 _ rfl; have q11 := (HM.out.below hb1).2 11 _ rfl; have q12 := (HM.out.below hb1).2 12 _ rfl) | (go_at_call 184; refine (HE.out _ (bel2 HB.out hb1)).mono ?_; rintro e w2 ⟨rfl, hb2⟩))
    go_ret
    exact ⟨ret_bool (by simp), bel2 (bel2 HB.out hb1) hb2⟩
  go_wp2_with (first | fail | (go_at_call 65; refine (HN.out _).mono ?_; rintro e w1 ⟨rfl, rfl⟩) | (first | (go_at_call_of 118 (x.frm); refine (HA1.out _).mono ?_; rintro e w1 ⟨rfl, rfl⟩) | (go_at_call_of 118 (x.too); refine (HA2.out _).mono ?_; rintro e w1 ⟨rfl, rfl⟩) | (go_at_call_of 118 (x.org); refine (HA3.out _).mono ?_; rintro e w1 ⟨rfl, rfl⟩)) | (go_at_call 183; refine (HT.out _ HB.out).mono ?_; rintro e w1 ⟨rfl, hb1⟩; have c0 := (HC.out.below hb1).2 0 _ rfl; have c1 := (HC.out.below hb1).2 1 _ rfl; have c2 := (HC.out.below hb1).2 2 _ rfl; have c3 := (HC.out.below hb1).2 3 _ rfl; have q0 := (HM.out.below hb1).2 0 _ rfl; have q1 := (HM.out.below hb1).2 1 _ rfl; have q2 := (HM.out.below hb1).2 2 _ rfl; have q3 := (HM.out.below hb1).2 3 _ rfl; have q4 := (HM.out.below hb1).2 4 _ rfl; have q5 := (HM.out.below hb1).2 5 _ rfl; have q6 := (HM.out.below hb1).2 6 _ rfl; have q7 := (HM.out.below hb1).2 7 _ rfl; have q8 := (HM.out.below hb1).2 8 _ rfl; have q9 := (HM.out.below hb1).2 9 _ rfl; have q10 := (HM.out.below hb1).2 10 _ rfl; have q11 := (HM.out.below hb1).2 11 _ rfl; have q12 := (HM.out.below hb1).2 12 _ rfl) | (go_at_call 184; refine (HE.out _ (bel2 HB.out hb1)).mono ?_; rintro e w2 ⟨rfl, hb2⟩))
  go_ret
  exact ⟨ret_bool (by simp), bel2 (bel2 HB.out hb1) hb2⟩
theorem clo2_Move (p : Nat) (x : Mv) (A : Option Addr) (c : Nat) (EA : Option Addr) (ec : Nat) (ct : Ctr) (FA : Option Addr) (fc : Nat) (SA : Option Addr) (sc : Nat) (MA : Option Addr) (mc : Nat) (w : World) (hbx : BxA w p (csC ct.name FA ct.fs.length fc SA ct.ss.length sc MA ct.ms.length mc)) (hx : ExE w A c x.guard ∧ EffK w EA ec x.effs) (h : CtK w ct FA fc SA sc MA mc) :
    Calls Tryz.prog 132 #[agMv x A c EA ec, .pointer (some ⟨p, 0, none⟩)] w (VMk (.bool (moveR ct x)) w) := by
  have hp : p < w.heap.size := hbx.1
  have hne : ¬ w.heap.size = p := by omega
  have h0 := hbx.2 0 _ rfl
  have h1 := hbx.2 1 _ rfl
  have h2 := hbx.2 2 _ rfl
  have h3 := hbx.2 3 _ rfl
  have HC := Lib.hid (fun o => rightMove_any x A c EA ec ct FA fc SA sc MA mc (w.alloc o) ⟨hx.1.below (alloc1 w o), EffK.below hx.2 (alloc1 w o)⟩ (h.below (alloc1 w o)))
  clear h hx hbx
  generalize moveR ct x = r at *
  have hsf := fun (w : World) (a : Addr) (m : Mode) (b : Nat) => run_store Tryz.prog w a (.float .f64 b) m rfl
  go_enter Tryz.func132, Tryz.ntmps132
  go_wp2_with (go_at_call 133; refine (HC.out _).mono ?_; rintro e w1 ⟨rfl, hb1⟩)
  go_ret
  exact ⟨rfl, bel2 (alloc1 w _) hb1⟩
end Go.Proofs.YtkahhoefbphllaaGreat

/- Layer 6: a field, a stage, an effect, a move, a contract as bytes, by the program. (Made by gen/gencput.py.) -/
namespace Go.Proofs.YtkahhoefbphllaaGreat
open Go.RowKit
set_option linter.unusedVariables false
set_option linter.unusedSimpArgs false
set_option maxRecDepth 20000

end Go.Proofs.YtkahhoefbphllaaGreat

/- Layer 6: all fields, all moves, Check, by the program. (Made by gen/gencmv.py.) -/
namespace Go.Proofs.YtkahhoefbphllaaGreat
open Go.RowKit
set_option linter.unusedVariables false
set_option linter.unusedSimpArgs false
set_option maxRecDepth 20000

set_option maxHeartbeats 1000000 in
theorem rightFields_any (ct : Ctr) (FA : Option Addr) (fc : Nat) (SA : Option Addr) (sc : Nat) (MA : Option Addr) (mc : Nat) (w : World) (h : CtK w ct FA fc SA sc MA mc) :
    Calls Tryz.prog 66 #[agC ct.name FA ct.fs.length fc SA ct.ss.length sc MA ct.ms.length mc] w (VMk (.bool (fieldsR ct)) w) := by
  have hm := h.f.2.1
  have hm1 := h.f.1
  unfold maxLen at hm
  have hlen : ct.fs.length ≤ 9223372036854775807 := by omega
  have hb0 := alloc1 w (bxC ct.name FA ct.fs.length fc SA ct.ss.length sc MA ct.ms.length mc)
  have hc := BxA.new w (csC ct.name FA ct.fs.length fc SA ct.ss.length sc MA ct.ms.length mc) 33
  have ho := once_Field (fun x => placeN x.f.name (ct.fs.map fun x => x.f.name) 0) w.heap.size FA fc ct.fs _ (h.f.below hb0) (fun x hx A c W hW => clo1_Field w.heap.size ct FA fc SA sc MA mc x A c W ((hc.below hW).2 0 _ rfl) ((hc.below hW).2 1 _ rfl) ((hc.below hW).2 2 _ rfl) ((hc.below hW).2 3 _ rfl) (h.below (bel2 hb0 hW)))
  have he := fun W hW => each_Field fieldR FA fc ct.fs W (h.f.below (bel2 hb0 hW)) (fun x hx A c W2 hW2 hI => rightField_any x A c W2 hI)
  have HO := Lib.hid ho
  have HE := Lib.hid he
  have HQ := Lib.hid (fun w1 (hb1 : Below _ _ w1) => (hc.below hb1).2 1 _ rfl)
  have HB := Lib.hid hb0
  unfold fieldsR
  rw [onceN_of]
  clear h ho he hc hb0 hm hm1
  generalize onceF (fun x => placeN x.f.name (ct.fs.map fun x => x.f.name) 0) ct.fs 0 = b2 at *
  generalize ct.fs.all fieldR = b3 at *
  go_enter Tryz.func66, Tryz.ntmps66
  by_cases h4 : (ct.fs.length : Int) ≤ 6
  · have hd : decide ((ct.fs.length : Int) ≤ 6) = true := decide_eq_true h4
    rw [hd]
    rcases b2 with _ | _
    all_goals
      go_wp2_with (first | fail | (go_at_call 119; refine HO.out.mono ?_; rintro e w1 ⟨rfl, hb1⟩; have hq := HQ.out _ hb1) | (go_at_call 122; refine (HE.out _ hb1).mono ?_; rintro e w2 ⟨rfl, hb2⟩))
      go_ret
      first | exact ⟨ret_bool (by simp), bel2 HB.out hb1⟩ | exact ⟨ret_bool (by simp), bel2 (bel2 HB.out hb1) hb2⟩
  · have hd : decide ((ct.fs.length : Int) ≤ 6) = false := decide_eq_false h4
    rw [hd]
    go_wp2
    go_ret
    exact ⟨ret_bool (by first | (simp; done) | (simp; omega)), HB.out⟩
set_option maxHeartbeats 1000000 in
theorem rightMoves_any (ct : Ctr) (FA : Option Addr) (fc : Nat) (SA : Option Addr) (sc : Nat) (MA : Option Addr) (mc : Nat) (w : World) (h : CtK w ct FA fc SA sc MA mc) :
    Calls Tryz.prog 68 #[agC ct.name FA ct.fs.length fc SA ct.ss.length sc MA ct.ms.length mc] w (VMk (.bool (movesR ct)) w) := by
  have hm := h.m.2.1
  have hm1 := h.m.1
  unfold maxLen at hm
  have hlen : ct.ms.length ≤ 9223372036854775807 := by omega
  have hb0 := alloc1 w (bxC ct.name FA ct.fs.length fc SA ct.ss.length sc MA ct.ms.length mc)
  have hc := BxA.new w (csC ct.name FA ct.fs.length fc SA ct.ss.length sc MA ct.ms.length mc) 33
  have ho := once_Move (fun x => placeN x.name (ct.ms.map fun x => x.name) 0) w.heap.size MA mc ct.ms _ (h.m.below hb0) (fun x hx A c EA ec W hW => clo1_Move w.heap.size ct FA fc SA sc MA mc x A c EA ec W ((hc.below hW).2 0 _ rfl) ((hc.below hW).2 1 _ rfl) ((hc.below hW).2 2 _ rfl) ((hc.below hW).2 3 _ rfl) (h.below (bel2 hb0 hW)))
  have he := fun W hW => each_Move w.heap.size (moveR ct) MA mc ct.ms W (h.m.below (bel2 hb0 hW)) (fun x hx A c EA ec W2 hW2 hI => clo2_Move w.heap.size x A c EA ec ct FA fc SA sc MA mc W2 (hc.below (bel2 hW hW2)) hI (h.below (bel2 hb0 (bel2 hW hW2))))
  have HO := Lib.hid ho
  have HE := Lib.hid he
  have HQ := Lib.hid (fun w1 (hb1 : Below _ _ w1) => (hc.below hb1).2 3 _ rfl)
  have HB := Lib.hid hb0
  unfold movesR
  rw [onceN_of]
  clear h ho he hc hb0 hm hm1
  generalize onceF (fun x => placeN x.name (ct.ms.map fun x => x.name) 0) ct.ms 0 = b2 at *
  generalize ct.ms.all (moveR ct) = b3 at *
  go_enter Tryz.func68, Tryz.ntmps68
  by_cases h4 : (ct.ms.length : Int) ≤ 8
  · have hd : decide ((ct.ms.length : Int) ≤ 8) = true := decide_eq_true h4
    rw [hd]
    rcases b2 with _ | _
    all_goals
      go_wp2_with (first | fail | (go_at_call 128; refine HO.out.mono ?_; rintro e w1 ⟨rfl, hb1⟩; have hq := HQ.out _ hb1) | (go_at_call 131; refine (HE.out _ hb1).mono ?_; rintro e w2 ⟨rfl, hb2⟩))
      go_ret
      first | exact ⟨ret_bool (by simp), bel2 HB.out hb1⟩ | exact ⟨ret_bool (by simp), bel2 (bel2 HB.out hb1) hb2⟩
  · have hd : decide ((ct.ms.length : Int) ≤ 8) = false := decide_eq_false h4
    rw [hd]
    go_wp2
    go_ret
    exact ⟨ret_bool (by first | (simp; done) | (simp; omega)), HB.out⟩
set_option maxHeartbeats 2000000 in
theorem cCheck_any (ct : Ctr) (FA : Option Addr) (fc : Nat) (SA : Option Addr) (sc : Nat) (MA : Option Addr) (mc : Nat) (w : World) (h : CtK w ct FA fc SA sc MA mc) :
    Calls Tryz.prog 36 #[agC ct.name FA ct.fs.length fc SA ct.ss.length sc MA ct.ms.length mc] w (VMk (.int .i64 (checkC ct)) w) := by
  have HB := Lib.hid (alloc1 w (bxC ct.name FA ct.fs.length fc SA ct.ss.length sc MA ct.ms.length mc))
  have HC := Lib.hid (BxA.new w (csC ct.name FA ct.fs.length fc SA ct.ss.length sc MA ct.ms.length mc) 33)
  have HN := Lib.hid (fun W => isName_any ct.name W)
  have HF := Lib.hid (fun W (hb : Below w.heap.size w W) => rightFields_any ct FA fc SA sc MA mc W (h.below hb))
  have HS := Lib.hid (fun W (hb : Below w.heap.size w W) => rightStages_any ct FA fc SA sc MA mc W (h.below hb))
  have HM := Lib.hid (fun W (hb : Below w.heap.size w W) => rightMoves_any ct FA fc SA sc MA mc W (h.below hb))
  unfold checkC
  clear h
  generalize nameB ct.name = b1 at *
  generalize fieldsR ct = b2 at *
  generalize stagesR ct = b3 at *
  generalize movesR ct = b4 at *
  go_enter Tryz.func36, Tryz.ntmps36
  rcases b1 with _ | _
  · go_wp2_with (first | fail | (go_at_call 65; refine (HN.out _).mono ?_; rintro e w1 ⟨rfl, rfl⟩))
    go_ret
    exact ⟨rfl, HB.out⟩
  rcases b2 with _ | _
  · go_wp2_with (first | fail | (go_at_call 65; refine (HN.out _).mono ?_; rintro e w1 ⟨rfl, rfl⟩) | (go_at_call 66; refine (HF.out _ (HB.out)).mono ?_; rintro e w2 ⟨rfl, hb2⟩; (try clear c0); (try clear c1); (try clear c2); (try clear c3); have c0 := (HC.out.below (hb2)).2 0 _ rfl; have c1 := (HC.out.below (hb2)).2 1 _ rfl; have c2 := (HC.out.below (hb2)).2 2 _ rfl; have c3 := (HC.out.below (hb2)).2 3 _ rfl))
    go_ret
    exact ⟨rfl, bel2 (HB.out) hb2⟩
  rcases b3 with _ | _
  · go_wp2_with (first | fail | (go_at_call 65; refine (HN.out _).mono ?_; rintro e w1 ⟨rfl, rfl⟩) | (go_at_call 66; refine (HF.out _ (HB.out)).mono ?_; rintro e w2 ⟨rfl, hb2⟩; (try clear c0); (try clear c1); (try clear c2); (try clear c3); have c0 := (HC.out.below (hb2)).2 0 _ rfl; have c1 := (HC.out.below (hb2)).2 1 _ rfl; have c2 := (HC.out.below (hb2)).2 2 _ rfl; have c3 := (HC.out.below (hb2)).2 3 _ rfl) | (go_at_call 67; refine (HS.out _ (bel2 (HB.out) hb2)).mono ?_; rintro e w3 ⟨rfl, hb3⟩; (try clear c0); (try clear c1); (try clear c2); (try clear c3); have c0 := (HC.out.below (bel2 hb2 hb3)).2 0 _ rfl; have c1 := (HC.out.below (bel2 hb2 hb3)).2 1 _ rfl; have c2 := (HC.out.below (bel2 hb2 hb3)).2 2 _ rfl; have c3 := (HC.out.below (bel2 hb2 hb3)).2 3 _ rfl))
    go_ret
    exact ⟨rfl, bel2 (bel2 (HB.out) hb2) hb3⟩
  rcases b4 with _ | _
  · go_wp2_with (first | fail | (go_at_call 65; refine (HN.out _).mono ?_; rintro e w1 ⟨rfl, rfl⟩) | (go_at_call 66; refine (HF.out _ (HB.out)).mono ?_; rintro e w2 ⟨rfl, hb2⟩; (try clear c0); (try clear c1); (try clear c2); (try clear c3); have c0 := (HC.out.below (hb2)).2 0 _ rfl; have c1 := (HC.out.below (hb2)).2 1 _ rfl; have c2 := (HC.out.below (hb2)).2 2 _ rfl; have c3 := (HC.out.below (hb2)).2 3 _ rfl) | (go_at_call 67; refine (HS.out _ (bel2 (HB.out) hb2)).mono ?_; rintro e w3 ⟨rfl, hb3⟩; (try clear c0); (try clear c1); (try clear c2); (try clear c3); have c0 := (HC.out.below (bel2 hb2 hb3)).2 0 _ rfl; have c1 := (HC.out.below (bel2 hb2 hb3)).2 1 _ rfl; have c2 := (HC.out.below (bel2 hb2 hb3)).2 2 _ rfl; have c3 := (HC.out.below (bel2 hb2 hb3)).2 3 _ rfl) | (go_at_call 68; refine (HM.out _ (bel2 (bel2 (HB.out) hb2) hb3)).mono ?_; rintro e w4 ⟨rfl, hb4⟩; (try clear c0); (try clear c1); (try clear c2); (try clear c3); have c0 := (HC.out.below (bel2 (bel2 hb2 hb3) hb4)).2 0 _ rfl; have c1 := (HC.out.below (bel2 (bel2 hb2 hb3) hb4)).2 1 _ rfl; have c2 := (HC.out.below (bel2 (bel2 hb2 hb3) hb4)).2 2 _ rfl; have c3 := (HC.out.below (bel2 (bel2 hb2 hb3) hb4)).2 3 _ rfl))
    go_ret
    exact ⟨rfl, bel2 (bel2 (bel2 (HB.out) hb2) hb3) hb4⟩
  go_wp2_with (first | fail | (go_at_call 65; refine (HN.out _).mono ?_; rintro e w1 ⟨rfl, rfl⟩) | (go_at_call 66; refine (HF.out _ (HB.out)).mono ?_; rintro e w2 ⟨rfl, hb2⟩; (try clear c0); (try clear c1); (try clear c2); (try clear c3); have c0 := (HC.out.below (hb2)).2 0 _ rfl; have c1 := (HC.out.below (hb2)).2 1 _ rfl; have c2 := (HC.out.below (hb2)).2 2 _ rfl; have c3 := (HC.out.below (hb2)).2 3 _ rfl) | (go_at_call 67; refine (HS.out _ (bel2 (HB.out) hb2)).mono ?_; rintro e w3 ⟨rfl, hb3⟩; (try clear c0); (try clear c1); (try clear c2); (try clear c3); have c0 := (HC.out.below (bel2 hb2 hb3)).2 0 _ rfl; have c1 := (HC.out.below (bel2 hb2 hb3)).2 1 _ rfl; have c2 := (HC.out.below (bel2 hb2 hb3)).2 2 _ rfl; have c3 := (HC.out.below (bel2 hb2 hb3)).2 3 _ rfl) | (go_at_call 68; refine (HM.out _ (bel2 (bel2 (HB.out) hb2) hb3)).mono ?_; rintro e w4 ⟨rfl, hb4⟩; (try clear c0); (try clear c1); (try clear c2); (try clear c3); have c0 := (HC.out.below (bel2 (bel2 hb2 hb3) hb4)).2 0 _ rfl; have c1 := (HC.out.below (bel2 (bel2 hb2 hb3) hb4)).2 1 _ rfl; have c2 := (HC.out.below (bel2 (bel2 hb2 hb3) hb4)).2 2 _ rfl; have c3 := (HC.out.below (bel2 (bel2 hb2 hb3) hb4)).2 3 _ rfl))
  go_ret
  exact ⟨rfl, bel2 (bel2 (bel2 (HB.out) hb2) hb3) hb4⟩
end Go.Proofs.YtkahhoefbphllaaGreat

/- Layer 6: Put of a contract, by the program. (Made by gen/gencput2.py.) -/
namespace Go.Proofs.YtkahhoefbphllaaGreat
open Go.RowKit
set_option linter.unusedVariables false
set_option linter.unusedSimpArgs false
set_option maxRecDepth 20000

end Go.Proofs.YtkahhoefbphllaaGreat

/- Layer 6: chapter 6's examples by definition, and as they are made. -/
namespace Go.Proofs.YtkahhoefbphllaaGreat
open Go.RowKit
set_option linter.unusedVariables false
set_option linter.unusedSimpArgs false
set_option maxRecDepth 20000

def fldN : Fld := ⟨⟨⟨#[110]⟩, 1⟩, [], vInt 0⟩
def stgS : Stg := ⟨⟨#[115]⟩, 0, []⟩
def stgT : Stg := ⟨⟨#[116]⟩, 1, [0, 2]⟩
def mvYes : Mv := ⟨⟨#[109]⟩, 0, 1, conX (vTruth true), [], -1⟩
def ctOne : Ctr := ⟨⟨#[99]⟩, [fldN], [stgS, stgT], [mvYes]⟩
theorem once_one (nm : ByteArray) : onceN [nm] = true := by
  rw [onceN_iff]
  intro i hi
  have h0 : i = 0 := by have : i < 1 := hi; omega
  subst h0
  show placeN nm [nm] 0 = 0
  unfold placeN
  rw [if_pos (beq_self_eq_true _)]
  rfl
theorem ne_ts : ((⟨#[115]⟩ : ByteArray).toList == (⟨#[116]⟩ : ByteArray).toList) = false := by
  rw [ByteArray.toList_eq, ByteArray.toList_eq]
  decide
theorem place_t : placeN ⟨#[116]⟩ [⟨#[115]⟩, ⟨#[116]⟩] 0 = 1 := by
  unfold placeN
  rw [ne_ts, if_neg (by decide)]
  unfold placeN
  rw [if_pos (beq_self_eq_true _)]
  rfl
theorem place_s : placeN ⟨#[115]⟩ [⟨#[115]⟩, ⟨#[116]⟩] 0 = 0 := by
  unfold placeN
  rw [if_pos (beq_self_eq_true _)]
  rfl
theorem once_st : onceN [⟨#[115]⟩, ⟨#[116]⟩] = true := by
  rw [onceN_iff]
  intro i hi
  match i, hi with
  | 0, _ => exact place_s
  | 1, _ => exact place_t
theorem name_one (b : UInt8) : nameB ⟨#[b]⟩ = true := rfl
theorem fldN_right : fieldR fldN = true := by
  have h : fitsV (vInt 0) 1 [] = 0 := by unfold fitsV; rw [good_int]; rfl
  have h1 : fitsV fldN.y fldN.f.kind fldN.en = 0 := h
  unfold fieldR
  rw [h1]
  rfl
theorem stgs_right : [stgS, stgT].all stageR = true := by decide
theorem fields_one (ss : List Stg) (ms : List Mv) : fieldsR ⟨⟨#[99]⟩, [fldN], ss, ms⟩ = true := by
  unfold fieldsR
  have h : onceN ([fldN].map fun f => f.f.name) = true := once_one _
  have h2 : [fldN].all fieldR = true := by rw [List.all_cons, fldN_right]; rfl
  show (decide ((([fldN].length : Nat) : Int) ≤ 6) && onceN ([fldN].map fun f => f.f.name) && [fldN].all fieldR) = true
  rw [h, h2]
  rfl
theorem stages_st (fs : List Fld) (ms : List Mv) : stagesR ⟨⟨#[99]⟩, fs, [stgS, stgT], ms⟩ = true := by
  unfold stagesR
  have h : onceN ([stgS, stgT].map Stg.name) = true := once_st
  show ((decide (1 ≤ (([stgS, stgT].length : Nat) : Int)) && decide ((([stgS, stgT].length : Nat) : Int) ≤ 6)) && onceN ([stgS, stgT].map Stg.name) && [stgS, stgT].all stageR) = true
  rw [h, stgs_right]
  rfl
theorem check_con (v : Vl) (fs : List Fd) (hg : goodV v = true) : checkX (conX v) fs = (v.k, 0) := by
  unfold checkX
  rw [if_pos (show smallX (conX v) = true from rfl)]
  exact chk_con 5 v fs hg
theorem one_right : checkC ctOne = 0 := by
  have h4 : movesR ctOne = true := by
    have h1 : onceN (ctOne.ms.map Mv.name) = true := once_one _
    have h2 : moveR ctOne mvYes = true := by
      have ht : tellsR mvYes.guard (ctOne.fs.map Fld.f) 2 = true := by
        unfold tellsR
        rw [show checkX mvYes.guard (ctOne.fs.map Fld.f) = (2, 0) from check_con _ _ (good_truth true)]
        rfl
      unfold moveR
      rw [ht, show effsR (ctOne.fs.map Fld.f) mvYes.effs = true from rfl]
      rfl
    have h3 : ctOne.ms.all (moveR ctOne) = true := by
      show [mvYes].all (moveR ctOne) = true
      rw [List.all_cons, h2]; rfl
    unfold movesR
    rw [h1, h3]
    rfl
  unfold checkC
  rw [show nameB ctOne.name = true from rfl, show fieldsR ctOne = true from fields_one _ _, show stagesR ctOne = true from stages_st _ _, h4]
  rfl
theorem i64_lit {n : Int} (h : -100 ≤ n) (h2 : n ≤ 100) : in64 n := by unfold in64; omega
theorem okX_con {v : Vl} (h : okV v) : ∀ k, okX k (conX v)
  | 0 => trivial
  | k + 1 => ⟨h, show in64 1 from i64_lit (by decide) (by decide), fun x hx => by cases hx⟩
theorem one_ok : okC ctOne := by
  refine ⟨fun f hf => ?_, fun s hs => ?_, fun m hm => ?_⟩
  · obtain rfl : f = fldN := by simpa [ctOne] using hf
    exact ⟨ok_int (i64_lit (by decide) (by decide)), i64_lit (by decide) (by decide)⟩
  · have : s = stgS ∨ s = stgT := by simpa [ctOne] using hs
    rcases this with rfl | rfl
    · exact ⟨i64_lit (by decide) (by decide), fun o ho => by cases ho⟩
    · refine ⟨i64_lit (by decide) (by decide), fun o ho => ?_⟩
      have : o = 0 ∨ o = 2 := by simpa [stgT] using ho
      rcases this with rfl | rfl <;> exact i64_lit (by decide) (by decide)
  · obtain rfl : m = mvYes := by simpa [ctOne] using hm
    exact ⟨i64_lit (by decide) (by decide), i64_lit (by decide) (by decide), i64_lit (by decide) (by decide), okX_con (ok_truth true), fun e he => by cases he⟩
/-! in memory -/
theorem at_row {w : World} {g : Nat} {cs : Array Value} {t : TypeId} (h : w.heap[g]? = some (.cells cs t (0, 0))) (i : Nat) (x : Value) (hx : cs[i]? = some x) : w.cell? ⟨g, i, none⟩ = some x := (cell_of_row w g i cs t (0, 0) h).trans hx
abbrev csN (A : Option Addr) (c : Nat) : List Value := [.string ⟨#[110]⟩, .int .i64 1, .slice A 0 c, .int .i64 1, .int .i64 0, .bool false, .string ⟨#[]⟩, .float .f64 0]
abbrev csM (tt : Int) (k : Int) (b : Bool) : List Value := [.string ⟨#[109]⟩, .int .i64 0, .int .i64 tt, .int .i64 1, .slice none 0 0, .string ⟨#[]⟩, .int .i64 k, .int .i64 0, .bool b, .string ⟨#[]⟩, .float .f64 0, .slice none 0 0, .int .i64 (-1)]
theorem ss_none (w : World) : Ss w (.slice none 0 0) [] := Rd.nil w
theorem fldk_rows (w : World) (g n : Nat) (t : TypeId) (A : Option Addr) (c : Nat) (hs : Ss w (.slice A 0 c) []) (hn : n ≤ 2) (h : w.heap[g]? = some (.cells (List.replicate n (csN A c)).flatten.toArray t (0, 0))) : FldK w (some ⟨g, 0, none⟩) n (List.replicate n fldN) := by
  have hlt : g < w.heap.size := (Array.getElem?_eq_some_iff.1 h).1
  refine ⟨by simp, by unfold maxLen; omega, fun h => (by cases h), fun j hj => ?_⟩
  have hj2 : j < n := by simpa using hj
  refine ⟨_, rfl, hlt, A, c, ?_, ?_⟩
  · rw [List.getElem_replicate, Addr.add_lit]
    have hc : ∀ i (x : Value), (csN A c)[i]? = some x → w.cell? ⟨g, 0 + j * 8 + i, none⟩ = some x := fun i x hx => at_row h _ x (by
      have hcase : (n = 1 ∧ j = 0) ∨ (n = 2 ∧ j = 0) ∨ (n = 2 ∧ j = 1) := by omega
      have hi : i < 8 := (List.getElem?_eq_some_iff.1 hx).1
      rcases hcase with ⟨rfl, rfl⟩ | ⟨rfl, rfl⟩ | ⟨rfl, rfl⟩
      all_goals
        match i, hi with
        | 0, _ => exact hx
        | 1, _ => exact hx
        | 2, _ => exact hx
        | 3, _ => exact hx
        | 4, _ => exact hx
        | 5, _ => exact hx
        | 6, _ => exact hx
        | 7, _ => exact hx)
    exact ⟨hc 0 _ rfl, hc 1 _ rfl, hc 2 _ rfl, hc 3 _ rfl, hc 4 _ rfl, hc 5 _ rfl, hc 6 _ rfl, hc 7 _ rfl⟩
  · rw [List.getElem_replicate]; exact hs
theorem mvk_row (w : World) (g : Nat) (t : TypeId) (tt k : Int) (b : Bool) (m : Mv) (hm : m = ⟨⟨#[109]⟩, 0, tt, conX ⟨k, 0, b, ⟨#[]⟩, 0⟩, [], -1⟩) (h : w.heap[g]? = some (.cells (csM tt k b).toArray t (0, 0))) : MvK w (some ⟨g, 0, none⟩) 1 [m] := by
  subst hm
  have hlt : g < w.heap.size := (Array.getElem?_eq_some_iff.1 h).1
  refine ⟨by simp, by unfold maxLen; omega, fun h => (by cases h), fun j hj => ?_⟩
  have hj2 : j = 0 := by have : j < 1 := hj; omega
  subst hj2
  refine ⟨_, rfl, hlt, none, 0, none, 0, at_row h 0 _ rfl, at_row h 1 _ rfl, at_row h 2 _ rfl, ?_, ExE.leaf w _ rfl, at_row h 11 _ rfl, at_row h 12 _ rfl, RowK.none _ _ _⟩
  exact ⟨at_row h 3 _ rfl, at_row h 4 _ rfl, at_row h 5 _ rfl, at_row h 6 _ rfl, at_row h 7 _ rfl, at_row h 8 _ rfl, at_row h 9 _ rfl, at_row h 10 _ rfl⟩
theorem stgk_row (w : World) (g gi : Nat) (t t' : TypeId) (hi : w.heap[gi]? = some (.cells #[.int .i64 0, .int .i64 2] t' (0, 0)))
    (h : w.heap[g]? = some (.cells #[.string ⟨#[115]⟩, .int .i64 0, .slice none 0 0, .string ⟨#[116]⟩, .int .i64 1, .slice (some ⟨gi, 0, none⟩) 2 2] t (0, 0))) : StgK w (some ⟨g, 0, none⟩) 2 [stgS, stgT] := by
  have hlt : g < w.heap.size := (Array.getElem?_eq_some_iff.1 h).1
  have hlti : gi < w.heap.size := (Array.getElem?_eq_some_iff.1 hi).1
  refine ⟨by simp, by unfold maxLen; omega, fun h => (by cases h), fun j hj => ?_⟩
  have hj2 : j < 2 := hj
  match j, hj2 with
  | 0, _ => exact ⟨_, rfl, hlt, none, 0, at_row h 0 _ rfl, at_row h 1 _ rfl, at_row h 2 _ rfl, Rd.nil w⟩
  | 1, _ =>
    refine ⟨_, rfl, hlt, some ⟨gi, 0, none⟩, 2, at_row h 3 _ rfl, at_row h 4 _ rfl, at_row h 5 _ rfl, ⟨_, 2, rfl, Nat.le_refl 2, by unfold maxLen; omega, (by intro h; cases h), fun _ => ⟨_, rfl, hlti, fun i u hu => ?_⟩⟩⟩
    rw [Addr.add_lit, Nat.zero_add]
    have hi2 : i < 2 := (List.getElem?_eq_some_iff.1 hu).1
    match i, hi2 with
    | 0, _ => exact at_row hi 0 _ hu
    | 1, _ => exact at_row hi 1 _ hu
/-- a contract is told -/
def CtP (c : Ctr) (w : World) (e : Ending) (w' : World) : Prop := ∃ FA fc SA sc MA mc, e = .returned (agC c.name FA c.fs.length fc SA c.ss.length sc MA c.ms.length mc) ∧ CtK w' c FA fc SA sc MA mc ∧ Below w.heap.size w w'
end Go.Proofs.YtkahhoefbphllaaGreat

/- Layer 6: what is read of a contract, in new memory. -/
namespace Go.Proofs.YtkahhoefbphllaaGreat
open Go.RowKit
set_option linter.unusedVariables false
set_option linter.unusedSimpArgs false
set_option maxRecDepth 20000

/-- the row (A, its length, c) of parts of K cells, in a block of S; R: what each is at its place -/
def RowN {α : Type} (S : Nat → Prop) (w : World) (K : Nat) (R : World → Addr → α → Prop) (A : Option Addr) (c : Nat) (l : List α) : Prop :=
  l.length ≤ c ∧ c ≤ maxLen ∧ (A = none → c = 0) ∧ ∀ j (hj : j < l.length), ∃ b, A = some ⟨b, 0, none⟩ ∧ b < w.heap.size ∧ S b ∧ R w ⟨b, j * K, none⟩ l[j]
theorem RowN.nil {α : Type} (S : Nat → Prop) (w : World) (K : Nat) (R : World → Addr → α → Prop) : RowN S w K R none 0 [] := ⟨Nat.le_refl _, Nat.zero_le _, fun _ => rfl, fun j hj => absurd hj (Nat.not_lt_zero _)⟩
theorem RowN.row {α : Type} {S : Nat → Prop} {w : World} {K : Nat} {R R' : World → Addr → α → Prop} (hR : ∀ p x, R w p x → R' w p x) {A : Option Addr} {c : Nat} {l : List α} (h : RowN S w K R A c l) : RowK w K R' A c l := by
  obtain ⟨h1, h2, h3, h4⟩ := h
  refine ⟨h1, h2, h3, fun j hj => ?_⟩
  obtain ⟨b, e1, e2, -, e3⟩ := h4 j hj
  refine ⟨_, e1, e2, ?_⟩
  rw [Addr.add_lit, Nat.zero_add]
  exact hR _ _ e3
/-- what lies in S stays where S's blocks do -/
abbrev Kept (S T : Nat → Prop) (w w' : World) : Prop := ∀ b, S b → b < w.heap.size → w'.heap[b]? = w.heap[b]? ∧ T b
theorem RowN.move {α : Type} {S T : Nat → Prop} {w w' : World} {K : Nat} {R R' : World → Addr → α → Prop} (h : Kept S T w w') (hz : w.heap.size ≤ w'.heap.size) (hR : ∀ (b o : Nat) (x : α), w'.heap[b]? = w.heap[b]? → R w ⟨b, o, none⟩ x → R' w' ⟨b, o, none⟩ x) {A : Option Addr} {c : Nat} {l : List α} (hx : RowN S w K R A c l) : RowN T w' K R' A c l := by
  obtain ⟨h1, h2, h3, h4⟩ := hx
  refine ⟨h1, h2, h3, fun j hj => ?_⟩
  obtain ⟨b, e1, e2, e3, e4⟩ := h4 j hj
  obtain ⟨f1, f2⟩ := h b e3 e2
  exact ⟨b, e1, Nat.lt_of_lt_of_le e2 hz, f2, hR b _ _ f1 e4⟩
/-- an own row -/
theorem rowN_own {α β : Type} {T : Nat → Prop} {w : World} {base : Nat} {t : TypeId} {K : Nat} {v : Value} {n : Nat} (cells : β → List Value) (hK : ∀ q, (cells q).length = K) (hpos : 0 < K) (val : β → α) {R : World → Addr → α → Prop} {qs : List β} (h : w.ownsRow base t K v n (qs.flatMap cells)) (hT : ∀ b, base ≤ b → T b)
    (hR : ∀ q ∈ qs, ∀ b i : Nat, (∀ o, o < K → w.cell? ⟨b, i + o, none⟩ = (cells q)[o]?) → R w ⟨b, i, none⟩ (val q)) : ∃ A c, v = .slice A (qs.map val).length c ∧ RowN T w K R A c (qs.map val) := by
  have hl := h.1
  rw [flat_len cells K hK] at hl
  have hn : n = qs.length := (Nat.eq_of_mul_eq_mul_right hpos hl).symm
  subst hn
  rcases h.2 with ⟨rfl, h0⟩ | ⟨g, cap, cur, rfl, hbase, hg, hc, hm, hcs, ht⟩
  · have : qs = [] := List.eq_nil_of_length_eq_zero h0
    subst this
    exact ⟨none, 0, rfl, RowN.nil _ _ _ _⟩
  · refine ⟨some ⟨g, 0, none⟩, cap, by rw [List.length_map], by rw [List.length_map]; exact hc, hm, fun h => (by cases h), fun j hj => ?_⟩
    have hjl : j < qs.length := by simpa using hj
    refine ⟨g, rfl, (Array.getElem?_eq_some_iff.1 hg).1, hT g hbase, ?_⟩
    rw [List.getElem_map]
    refine hR _ (List.getElem_mem hjl) g _ fun o ho => ?_
    have hlt : j * K + o < qs.length * K := by
      have : (j + 1) * K ≤ qs.length * K := Nat.mul_le_mul_right _ hjl
      rw [Nat.add_mul] at this
      omega
    rw [cell_of_row w g _ _ _ (0, 0) hg, ← flat_get cells K hK qs j o hjl ho, ← ht, List.getElem?_take, if_pos hlt, Array.getElem?_toList]

/-! texts, ints -/
def StrP (w : World) (p : Addr) (s : ByteArray) : Prop := w.cell? p = some (.string s)
def IntP (w : World) (p : Addr) (n : Int) : Prop := w.cell? p = some (.int .i64 n)
abbrev intC (n : Int) : List Value := [.int .i64 n]
theorem StrP.at {w w' : World} (b o : Nat) (x : ByteArray) (h : w'.heap[b]? = w.heap[b]?) (hx : StrP w ⟨b, o, none⟩ x) : StrP w' ⟨b, o, none⟩ x := (World.cell?_of_block (a := ⟨b, o, none⟩) h).trans hx
theorem IntP.at {w w' : World} (b o : Nat) (x : Int) (h : w'.heap[b]? = w.heap[b]?) (hx : IntP w ⟨b, o, none⟩ x) : IntP w' ⟨b, o, none⟩ x := (World.cell?_of_block (a := ⟨b, o, none⟩) h).trans hx
theorem rd_rowN {α : Type} {S : Nat → Prop} {w : World} {A : Option Addr} {c : Nat} {l : List α} (val : α → Value) (h : RowN S w 1 (fun w p x => w.cell? p = some (val x)) A c l) : Rd w (.slice A l.length c) (l.map val) := by
  obtain ⟨h1, h2, h3, h4⟩ := h
  refine ⟨A, c, by rw [List.length_map], by rw [List.length_map]; exact h1, h2, h3, fun hne => ?_⟩
  have hl : 0 < l.length := by
    rcases l with _ | ⟨x, l⟩
    · exact absurd rfl hne
    · simp
  obtain ⟨b, e1, e2, -, -⟩ := h4 0 hl
  refine ⟨_, e1, e2, fun j u hj => ?_⟩
  rw [List.getElem?_map] at hj
  by_cases hjl : j < l.length
  · rw [List.getElem?_eq_getElem hjl] at hj
    obtain ⟨b2, f1, -, -, f2⟩ := h4 j hjl
    rw [e1] at f1
    injection f1 with f1
    injection f1 with f1
    subst f1
    rw [Addr.add_lit, Nat.zero_add]
    rw [Nat.mul_one] at f2
    rw [f2]
    exact hj
  · rw [List.getElem?_eq_none (Nat.le_of_not_lt hjl)] at hj
    cases hj
abbrev TxN (S : Nat → Prop) (w : World) (A : Option Addr) (c : Nat) (l : List ByteArray) : Prop := RowN S w 1 StrP A c l
abbrev IsN (S : Nat → Prop) (w : World) (A : Option Addr) (c : Nat) (l : List Int) : Prop := RowN S w 1 IntP A c l
theorem TxN.ss {S : Nat → Prop} {w : World} {A : Option Addr} {c : Nat} {l : List ByteArray} (h : TxN S w A c l) : Ss w (.slice A l.length c) l := rd_rowN Value.string h
theorem IsN.is {S : Nat → Prop} {w : World} {A : Option Addr} {c : Nat} {l : List Int} (h : IsN S w A c l) : Is w (.slice A l.length c) l := rd_rowN (Value.int .i64) h
theorem TxN.move {S T : Nat → Prop} {w w' : World} (h : Kept S T w w') (hz : w.heap.size ≤ w'.heap.size) {A : Option Addr} {c : Nat} {l : List ByteArray} (hx : TxN S w A c l) : TxN T w' A c l := RowN.move h hz (fun b o x hb hp => hp.at b o x hb) hx
theorem IsN.move {S T : Nat → Prop} {w w' : World} (h : Kept S T w w') (hz : w.heap.size ≤ w'.heap.size) {A : Option Addr} {c : Nat} {l : List Int} (hx : IsN S w A c l) : IsN T w' A c l := RowN.move h hz (fun b o x hb hp => hp.at b o x hb) hx

/-! fields -/
structure FldX where
  f : Fld
  A : Option Addr
  c : Nat
def FldX.cells (q : FldX) : List Value := [.string q.f.f.name, .int .i64 q.f.f.kind, .slice q.A q.f.en.length q.c, .int .i64 q.f.y.k, .int .i64 q.f.y.i, .bool q.f.y.b, .string q.f.y.s, .float .f64 q.f.y.n]
def FldX.ok (S : Nat → Prop) (w : World) (q : FldX) : Prop := TxN S w q.A q.c q.f.en
/-- a field at p, its texts in S -/
def FldQ (S : Nat → Prop) (w : World) (p : Addr) (f : Fld) : Prop := ∃ A c, Fdp w p f.f.name f.f.kind A f.en.length c f.y ∧ TxN S w A c f.en
theorem FldQ.fldp {S : Nat → Prop} {w : World} {p : Addr} {f : Fld} (h : FldQ S w p f) : FldP w p f := by
  obtain ⟨A, c, h1, h2⟩ := h
  exact ⟨A, c, h1, h2.ss⟩
theorem Fdp.at {w w' : World} {p : Addr} {nm : ByteArray} {fk : Int} {A : Option Addr} {n c : Nat} {y : Vl} (h : Fdp w p nm fk A n c y) (hb : w'.heap[p.block]? = w.heap[p.block]?) : Fdp w' p nm fk A n c y := by
  obtain ⟨h0, h1, h2, h3, h4, h5, h6, h7⟩ := h
  have k : ∀ o, w'.cell? ⟨p.block, o, none⟩ = w.cell? ⟨p.block, o, none⟩ := fun o => World.cell?_of_block (a := ⟨p.block, o, none⟩) hb
  exact ⟨(World.cell?_of_block hb).trans h0, (k _).trans h1, (k _).trans h2, (k _).trans h3, (k _).trans h4, (k _).trans h5, (k _).trans h6, (k _).trans h7⟩
abbrev FldN (S : Nat → Prop) (w : World) (A : Option Addr) (c : Nat) (l : List Fld) : Prop := RowN S w 8 (FldQ S) A c l
theorem FldN.move {S T : Nat → Prop} {w w' : World} (h : Kept S T w w') (hz : w.heap.size ≤ w'.heap.size) {A : Option Addr} {c : Nat} {l : List Fld} (hx : FldN S w A c l) : FldN T w' A c l :=
  RowN.move h hz (fun b o x hb hp => by obtain ⟨A, c, h1, h2⟩ := hp; exact ⟨A, c, h1.at hb, h2.move h hz⟩) hx
theorem FldN.k {S : Nat → Prop} {w : World} {A : Option Addr} {c : Nat} {l : List Fld} (h : FldN S w A c l) : FldK w A c l := RowN.row (fun p x h => h.fldp) h
/-! stages -/
structure StgX where
  s : Stg
  A : Option Addr
  c : Nat
def StgX.cells (q : StgX) : List Value := [.string q.s.name, .int .i64 q.s.need, .slice q.A q.s.orgs.length q.c]
def StgX.ok (S : Nat → Prop) (w : World) (q : StgX) : Prop := IsN S w q.A q.c q.s.orgs
def StgQ (S : Nat → Prop) (w : World) (p : Addr) (s : Stg) : Prop := ∃ A c, w.cell? p = some (.string s.name) ∧ w.cell? ⟨p.block, p.off + 1, none⟩ = some (.int .i64 s.need) ∧ w.cell? ⟨p.block, p.off + 2, none⟩ = some (.slice A s.orgs.length c) ∧ IsN S w A c s.orgs
theorem StgQ.stgp {S : Nat → Prop} {w : World} {p : Addr} {s : Stg} (h : StgQ S w p s) : StgP w p s := by
  obtain ⟨A, c, h1, h2, h3, h4⟩ := h
  exact ⟨A, c, h1, h2, h3, h4.is⟩
theorem cellAt {w w' : World} {p : Addr} {o : Nat} {x : Value} (hb : w'.heap[p.block]? = w.heap[p.block]?) (h : w.cell? ⟨p.block, o, none⟩ = some x) : w'.cell? ⟨p.block, o, none⟩ = some x := (World.cell?_of_block (a := ⟨p.block, o, none⟩) hb).trans h
theorem cellAt0 {w w' : World} {p : Addr} {x : Value} (hb : w'.heap[p.block]? = w.heap[p.block]?) (h : w.cell? p = some x) : w'.cell? p = some x := (World.cell?_of_block hb).trans h
abbrev StgN (S : Nat → Prop) (w : World) (A : Option Addr) (c : Nat) (l : List Stg) : Prop := RowN S w 3 (StgQ S) A c l
theorem StgN.move {S T : Nat → Prop} {w w' : World} (h : Kept S T w w') (hz : w.heap.size ≤ w'.heap.size) {A : Option Addr} {c : Nat} {l : List Stg} (hx : StgN S w A c l) : StgN T w' A c l :=
  RowN.move h hz (fun b o x hb hp => by obtain ⟨A, c, h1, h2, h3, h4⟩ := hp; exact ⟨A, c, cellAt0 hb h1, cellAt (p := ⟨b, o, none⟩) hb h2, cellAt (p := ⟨b, o, none⟩) hb h3, h4.move h hz⟩) hx
theorem StgN.k {S : Nat → Prop} {w : World} {A : Option Addr} {c : Nat} {l : List Stg} (h : StgN S w A c l) : StgK w A c l := RowN.row (fun p x h => h.stgp) h
/-! effects -/
structure EffX where
  e : Eff
  A : Option Addr
  c : Nat
def EffX.cells (q : EffX) : List Value := [.string q.e.field, .int .i64 q.e.e.op, .slice q.A q.e.e.kids.length q.c, .string q.e.e.name, .int .i64 q.e.e.val.k, .int .i64 q.e.e.val.i, .bool q.e.e.val.b, .string q.e.e.val.s, .float .f64 q.e.e.val.n]
def EffX.ok (S : Nat → Prop) (w : World) (q : EffX) : Prop := ExS S w 6 q.A q.c q.e.e
def EffQ (S : Nat → Prop) (w : World) (p : Addr) (e : Eff) : Prop := ∃ A c, w.cell? p = some (.string e.field) ∧ Kid w ⟨p.block, p.off + 1, none⟩ e.e.op A e.e.kids.length c e.e.name e.e.val ∧ ExS S w 6 A c e.e
theorem EffQ.effp {S : Nat → Prop} {w : World} {p : Addr} {e : Eff} (h : EffQ S w p e) : EffP w p e := by
  obtain ⟨A, c, h1, h2, h3⟩ := h
  exact ⟨A, c, h1, h2, 6, h3.exk⟩
abbrev EffN (S : Nat → Prop) (w : World) (A : Option Addr) (c : Nat) (l : List Eff) : Prop := RowN S w 9 (EffQ S) A c l
theorem EffN.move {S T : Nat → Prop} {w w' : World} (h : Kept S T w w') (hz : w.heap.size ≤ w'.heap.size) {A : Option Addr} {c : Nat} {l : List Eff} (hx : EffN S w A c l) : EffN T w' A c l :=
  RowN.move h hz (fun b o x hb hp => by obtain ⟨A, c, h1, h2, h3⟩ := hp; exact ⟨A, c, cellAt0 hb h1, h2.at hb, h3.move h hz⟩) hx
theorem EffN.k {S : Nat → Prop} {w : World} {A : Option Addr} {c : Nat} {l : List Eff} (h : EffN S w A c l) : EffK w A c l := RowN.row (fun p x h => h.effp) h
/-! moves -/
structure MvX where
  m : Mv
  A : Option Addr
  c : Nat
  EA : Option Addr
  ec : Nat
def MvX.cells (q : MvX) : List Value := [.string q.m.name, .int .i64 q.m.frm, .int .i64 q.m.too, .int .i64 q.m.guard.op, .slice q.A q.m.guard.kids.length q.c, .string q.m.guard.name, .int .i64 q.m.guard.val.k, .int .i64 q.m.guard.val.i, .bool q.m.guard.val.b, .string q.m.guard.val.s, .float .f64 q.m.guard.val.n, .slice q.EA q.m.effs.length q.ec, .int .i64 q.m.org]
def MvX.ok (S : Nat → Prop) (w : World) (q : MvX) : Prop := ExS S w 6 q.A q.c q.m.guard ∧ EffN S w q.EA q.ec q.m.effs
def MvQ (S : Nat → Prop) (w : World) (p : Addr) (m : Mv) : Prop := ∃ A c EA ec, w.cell? p = some (.string m.name) ∧ w.cell? ⟨p.block, p.off + 1, none⟩ = some (.int .i64 m.frm) ∧ w.cell? ⟨p.block, p.off + 2, none⟩ = some (.int .i64 m.too) ∧
  Kid w ⟨p.block, p.off + 3, none⟩ m.guard.op A m.guard.kids.length c m.guard.name m.guard.val ∧ ExS S w 6 A c m.guard ∧
  w.cell? ⟨p.block, p.off + 11, none⟩ = some (.slice EA m.effs.length ec) ∧ w.cell? ⟨p.block, p.off + 12, none⟩ = some (.int .i64 m.org) ∧ EffN S w EA ec m.effs
theorem MvQ.mvp {S : Nat → Prop} {w : World} {p : Addr} {m : Mv} (h : MvQ S w p m) : MvP w p m := by
  obtain ⟨A, c, EA, ec, h0, h1, h2, h3, h4, h5, h6, h7⟩ := h
  exact ⟨A, c, EA, ec, h0, h1, h2, h3, ⟨6, h4.exk⟩, h5, h6, h7.k⟩
abbrev MvN (S : Nat → Prop) (w : World) (A : Option Addr) (c : Nat) (l : List Mv) : Prop := RowN S w 13 (MvQ S) A c l
theorem MvN.move {S T : Nat → Prop} {w w' : World} (h : Kept S T w w') (hz : w.heap.size ≤ w'.heap.size) {A : Option Addr} {c : Nat} {l : List Mv} (hx : MvN S w A c l) : MvN T w' A c l :=
  RowN.move h hz (fun b o x hb hp => by
    obtain ⟨A, c, EA, ec, h0, h1, h2, h3, h4, h5, h6, h7⟩ := hp
    exact ⟨A, c, EA, ec, cellAt0 hb h0, cellAt (p := ⟨b, o, none⟩) hb h1, cellAt (p := ⟨b, o, none⟩) hb h2, h3.at hb, h4.move h hz, cellAt (p := ⟨b, o, none⟩) hb h5, cellAt (p := ⟨b, o, none⟩) hb h6, h7.move h hz⟩) hx
theorem MvN.k {S : Nat → Prop} {w : World} {A : Option Addr} {c : Nat} {l : List Mv} (h : MvN S w A c l) : MvK w A c l := RowN.row (fun p x h => h.mvp) h
end Go.Proofs.YtkahhoefbphllaaGreat

/- Layer 5: the laws' arguments, opened. -/
namespace Go.Proofs.YtkahhoefbphllaaGreat
open Go.RowKit Go.ChangeShapes Go.WideShapes Go.ChangeAt
set_option linter.unusedVariables false
set_option linter.unusedSimpArgs false
set_option maxRecDepth 20000

section
variable {H : Type} {enc : TypeId × Value → H} {W : World} {sp : Nat → Bool} {hd : Bool} {base : Nat} {v : Value} {d : DataW H} {ps : List MemPlace}

end
end Go.Proofs.YtkahhoefbphllaaGreat

/- Layer 6: contracts that are handed in, opened. -/
namespace Go.Proofs.YtkahhoefbphllaaGreat
open Go.RowKit Go.ChangeShapes Go.WideShapes Go.ChangeAt
set_option linter.unusedVariables false
set_option linter.unusedSimpArgs false
set_option maxRecDepth 20000

section
variable {H : Type} {enc : TypeId × Value → H} {W : World} {sp : Nat → Bool} {hd : Bool} {base : Nat} {v : Value} {d : DataW H} {ps : List MemPlace}

end
end Go.Proofs.YtkahhoefbphllaaGreat

/- Layer 7: cases as they lie in memory. -/
namespace Go.Proofs.YtkahhoefbphllaaGreat
open Go.RowKit
set_option linter.unusedVariables false
set_option linter.unusedSimpArgs false
set_option maxRecDepth 20000

/-- a case's eight cells -/
abbrev csK (k : Cse) (VA : Option Addr) (vc : Nat) (EA : Option Addr) (ec : Nat) : Array Value := #[.string k.id, .string k.ctr, .int .i64 k.stage, .slice VA k.vals.length vc, .slice EA k.ends.length ec, .bool k.susp, .bool k.shut, .int .i64 k.steps]
/-- where a case's rows lie -/
structure CsK (w : World) (k : Cse) (VA : Option Addr) (vc : Nat) (EA : Option Addr) (ec : Nat) : Prop where
  v : VlK w VA vc k.vals
  e : Is w (.slice EA k.ends.length ec) k.ends
theorem CsK.below {w w' : World} {k : Cse} {VA : Option Addr} {vc : Nat} {EA : Option Addr} {ec : Nat} (h : CsK w k VA vc EA ec) (hb : Below w.heap.size w w') : CsK w' k VA vc EA ec := ⟨h.v.below hb (Nat.le_refl _), Rd.below h.e hb (Nat.le_refl _)⟩
/-- its numbers are numbers of theirs -/
structure okK (k : Cse) : Prop where
  v : ∀ v ∈ k.vals, okV v
  st : in64 k.stage
  en : ∀ o ∈ k.ends, in64 o
  sp : in64 k.steps
/-- values in new memory -/
abbrev VlN (S : Nat → Prop) (w : World) (A : Option Addr) (c : Nat) (l : List Vl) : Prop := RowN S w 5 Vlp A c l
theorem Vlp.at {w w' : World} {p : Addr} {y : Vl} (h : Vlp w p y) (hb : w'.heap[p.block]? = w.heap[p.block]?) : Vlp w' p y := ⟨cellAt0 hb h.1, cellAt hb h.2.1, cellAt hb h.2.2.1, cellAt hb h.2.2.2.1, cellAt hb h.2.2.2.2⟩
theorem VlN.move {S T : Nat → Prop} {w w' : World} (h : Kept S T w w') (hz : w.heap.size ≤ w'.heap.size) {A : Option Addr} {c : Nat} {l : List Vl} (hx : VlN S w A c l) : VlN T w' A c l := RowN.move h hz (fun b o x hb hp => hp.at hb) hx
theorem VlN.k {S : Nat → Prop} {w : World} {A : Option Addr} {c : Nat} {l : List Vl} (h : VlN S w A c l) : VlK w A c l := RowN.row (fun p x h => h) h
structure CsN (S : Nat → Prop) (w : World) (k : Cse) (VA : Option Addr) (vc : Nat) (EA : Option Addr) (ec : Nat) : Prop where
  v : VlN S w VA vc k.vals
  e : IsN S w EA ec k.ends
theorem CsN.k {S : Nat → Prop} {w : World} {k : Cse} {VA : Option Addr} {vc : Nat} {EA : Option Addr} {ec : Nat} (h : CsN S w k VA vc EA ec) : CsK w k VA vc EA ec := ⟨h.v.k, h.e.is⟩
theorem CsN.move {S T : Nat → Prop} {w w' : World} (h : Kept S T w w') (hz : w.heap.size ≤ w'.heap.size) {k : Cse} {VA : Option Addr} {vc : Nat} {EA : Option Addr} {ec : Nat} (hx : CsN S w k VA vc EA ec) : CsN T w' k VA vc EA ec := ⟨hx.v.move h hz, hx.e.move h hz⟩
/-- what is told: a case in new memory, and an error -/
def GivesK (r : Cse × Int) (w : World) (e : Ending) (w' : World) : Prop := ∃ VA vc EA ec, e = .returned (.tuple #[.agg (csK r.1 VA vc EA ec), .int .i64 r.2]) ∧ CsN (fun b => w.heap.size ≤ b) w' r.1 VA vc EA ec ∧ Below w.heap.size w w'
end Go.Proofs.YtkahhoefbphllaaGreat

/- Layer 5: ExprLazy, by definition; three kids laid in a row. -/
namespace Go.Proofs.YtkahhoefbphllaaGreat
open Go.RowKit
set_option linter.unusedVariables false
set_option linter.unusedSimpArgs false
set_option maxRecDepth 20000

/-- three kids laid in a new row -/
abbrev row3 (p0 : Int) (A0 : Option Addr) (n0 c0 : Nat) (m0 : ByteArray) (y0 : Vl) (p1 : Int) (A1 : Option Addr) (n1 c1 : Nat) (m1 : ByteArray) (y1 : Vl) (p2 : Int) (A2 : Option Addr) (n2 c2 : Nat) (m2 : ByteArray) (y2 : Vl) : Obj :=
  .cells #[.int .i64 p0, .slice A0 n0 c0, .string m0, .int .i64 y0.k, .int .i64 y0.i, .bool y0.b, .string y0.s, .float .f64 y0.n, .int .i64 p1, .slice A1 n1 c1, .string m1, .int .i64 y1.k, .int .i64 y1.i, .bool y1.b, .string y1.s, .float .f64 y1.n, .int .i64 p2, .slice A2 n2 c2, .string m2, .int .i64 y2.k, .int .i64 y2.i, .bool y2.b, .string y2.s, .float .f64 y2.n] 75
theorem ExE.three {w : World} {A0 A1 A2 : Option Addr} {c0 c1 c2 : Nat} {e0 e1 e2 : Ex} (o : Int) (h0 : ExE w A0 c0 e0) (h1 : ExE w A1 c1 e1) (h2 : ExE w A2 c2 e2) :
    ExE (w.alloc (row3 e0.op A0 e0.kids.length c0 e0.name e0.val e1.op A1 e1.kids.length c1 e1.name e1.val e2.op A2 e2.kids.length c2 e2.name e2.val)) (some ⟨w.heap.size, 0, none⟩) 3 (opX o [e0, e1, e2]) := by
  obtain ⟨D0, h0⟩ := h0
  obtain ⟨D1, h1⟩ := h1
  obtain ⟨D2, h2⟩ := h2
  have hn := heap_alloc_new w (row3 e0.op A0 e0.kids.length c0 e0.name e0.val e1.op A1 e1.kids.length c1 e1.name e1.val e2.op A2 e2.kids.length c2 e2.name e2.val)
  have hb : Below w.heap.size w (w.alloc (row3 e0.op A0 e0.kids.length c0 e0.name e0.val e1.op A1 e1.kids.length c1 e1.name e1.val e2.op A2 e2.kids.length c2 e2.name e2.val)) := alloc1 _ _
  have g0 := (h0.upto (D1 + D2)).below hb (Nat.le_refl _)
  have g1 := (h1.upto (D0 + D2)).below hb (Nat.le_refl _)
  have g2 := (h2.upto (D0 + D1)).below hb (Nat.le_refl _)
  rw [show D1 + (D0 + D2) = D0 + (D1 + D2) by omega] at g1
  rw [show D2 + (D0 + D1) = D0 + (D1 + D2) by omega] at g2
  refine ⟨D0 + (D1 + D2) + 1, Nat.le_refl _, by unfold maxLen; show 3 ≤ 2 ^ 63 - 1; omega, fun h => (by cases h), fun j hj => ?_⟩
  have hj2 : j < 3 := hj
  match j, hj2 with
  | 0, _ => exact ⟨_, A0, c0, rfl, by simp, by rw [Addr.add_lit]; exact kid_row _ _ _ _ _ hn _ _ _ _ _ _ rfl rfl rfl rfl rfl rfl rfl rfl, g0⟩
  | 1, _ => exact ⟨_, A1, c1, rfl, by simp, by rw [Addr.add_lit]; exact kid_row _ _ _ _ _ hn _ _ _ _ _ _ rfl rfl rfl rfl rfl rfl rfl rfl, g1⟩
  | 2, _ => exact ⟨_, A2, c2, rfl, by simp, by rw [Addr.add_lit]; exact kid_row _ _ _ _ _ hn _ _ _ _ _ _ rfl rfl rfl rfl rfl rfl rfl rfl, g2⟩
end Go.Proofs.YtkahhoefbphllaaGreat

/- Layer 7: chapter 7's examples by definition. -/
namespace Go.Proofs.YtkahhoefbphllaaGreat
open Go.RowKit
set_option linter.unusedVariables false
set_option linter.unusedSimpArgs false
set_option maxRecDepth 20000

theorem in64_of2 {n : Int} (h1 : -9223372036854775808 ≤ n) (h2 : n ≤ 9223372036854775807) : in64 n := ⟨h1, h2⟩
theorem okV_int {n : Int} (h : in64 n) : okV (vInt n) := ⟨in64_of2 (by show (-9223372036854775808 : Int) ≤ 1; decide) (by show (1 : Int) ≤ 9223372036854775807; decide), h, by show (0 : Nat) < 18446744073709551616; decide⟩
def kOne0 : Cse := ⟨⟨#[107]⟩, ⟨#[99]⟩, 0, [vInt 0], [], false, false, 0⟩
def kOne1 : Cse := ⟨⟨#[107]⟩, ⟨#[99]⟩, 1, [vInt 0], [], false, false, 1⟩
def kOne2 : Cse := ⟨⟨#[107]⟩, ⟨#[99]⟩, 1, [vInt 0], [2], false, false, 2⟩
theorem new_bad : newK ctOne ⟨#[]⟩ = (zK, 50) := by
  unfold newK
  rw [if_pos one_right, if_neg (show ¬ nameB ⟨#[]⟩ = true by decide)]
theorem new_one : newK ctOne ⟨#[107]⟩ = (kOne0, 0) := by
  unfold newK
  rw [if_pos one_right, if_pos (name_one 107)]
  rfl
theorem right0 : rightK ctOne kOne0 = true := by
  have h := (new_right (c := ctOne) (id := ⟨#[107]⟩) (by rw [new_one])).1
  rwa [new_one] at h
theorem place_one (nm : ByteArray) : placeN nm [nm] 0 = 0 := by
  unfold placeN
  rw [if_pos (beq_self_eq_true _)]
  rfl
theorem evK_con (c : Ctr) (k : Cse) (v : Vl) (hg : goodV v = true) (h4 : v.k ≠ 4) (hf : fitX (c.fs.map Fld.f) k.vals = true) : evK c k (conX v) = (v, 0) := by
  unfold evK evalP
  rw [check_con v _ hg, if_neg (fun h => h rfl), hf, if_pos rfl, ev_con]
  unfold endV setV
  rw [if_pos rfl, if_neg h4]
theorem do_of {c : Ctr} {k n : Cse} {d : Int} {nm : ByteArray} {v : Vl} {org e : Int} (hr : rightK c k = true) (h3 : 3 ≤ d) (h9 : d ≤ 9) (h0 : 0 ≤ org) (h4 : org ≤ 3) (hs : k.steps ≠ 1099511627776) (h : stepK c k d nm v (evK c k) org = (n, e)) : doK c k d nm v org = countK (n, e) k := by
  unfold doK
  rw [if_neg (by rintro (h | h | h | h | h) <;> first | omega | (rw [hr] at h; cases h)), if_neg hs, h]
theorem fit_one : fitX (ctOne.fs.map Fld.f) kOne0.vals = true := fitK_fitX (((rightK_iff _ _).1 right0).vn) (((rightK_iff _ _).1 right0).vf)
theorem do_1 (v : Vl) : doK ctOne kOne0 5 ⟨#[109]⟩ v 0 = (kOne1, 0) := by
  have hp : placeN ⟨#[109]⟩ (ctOne.ms.map Mv.name) 0 = 0 := place_one _
  have hy : mayK ctOne kOne0 mvYes (evK ctOne kOne0) 0 = 0 := by
    unfold mayK
    rw [if_neg (show ¬ mvYes.frm ≠ kOne0.stage by decide), if_neg (show ¬ (0 ≤ mvYes.org ∧ mvYes.org ≠ 0) by decide), if_neg (show ¬ ((kOne0.ends.length : Int) < (stgAt ctOne kOne0.stage).need) by decide)]
    rw [show evK ctOne kOne0 mvYes.guard = (vTruth true, 0) from evK_con _ _ _ (good_truth true) (by decide) fit_one]
    rfl
  have h := do_of (c := ctOne) (k := kOne0) (d := 5) (nm := ⟨#[109]⟩) (v := v) (org := 0) (n := { kOne0 with stage := 1 }) (e := 0) right0 (by decide) (by decide) (by decide) (by decide) (by decide) (by
    unfold stepK
    rw [if_neg (show ¬ barK kOne0 5 ≠ 0 by decide), if_neg (show ¬ (5 : Int) = 3 by decide), if_neg (show ¬ (5 : Int) = 4 by decide), if_pos rfl]
    rw [advK_at (m := mvYes) (by rw [hp]; decide) (by rw [hp]; rfl), if_neg (fun h => h hy)]
    rfl)
  rw [h]
  rfl
theorem right1 : rightK ctOne kOne1 = true := by
  have h := do_right ctOne kOne0 5 ⟨#[109]⟩ vZero 0 right0
  rwa [do_1] at h
theorem do_2 (nm : ByteArray) (v : Vl) : doK ctOne kOne1 4 nm v 2 = (kOne2, 0) := by
  rw [do_of (c := ctOne) (k := kOne1) (d := 4) (nm := nm) (v := v) (org := 2) (n := { kOne1 with ends := [2] }) (e := 0) right1 (by decide) (by decide) (by decide) (by decide) (by decide) rfl]
  rfl
theorem right2 : rightK ctOne kOne2 = true := by
  have h := do_right ctOne kOne1 4 ⟨#[]⟩ vZero 2 right1
  rwa [do_2] at h
theorem do_3 (nm : ByteArray) (v : Vl) : doK ctOne kOne2 4 nm v 2 = (kOne2, 82) := by
  rw [do_of (c := ctOne) (k := kOne2) (d := 4) (nm := nm) (v := v) (org := 2) (n := kOne2) (e := 82) right2 (by decide) (by decide) (by decide) (by decide) (by decide) rfl]
  rfl
theorem okK_one0 : okK kOne0 := ⟨fun v hv => by rw [List.mem_singleton.1 hv]; exact okV_int (in64_of2 (by decide) (by decide)), in64_of2 (by decide) (by decide), fun o ho => (by cases ho), in64_of2 (by decide) (by decide)⟩
theorem okK_one1 : okK kOne1 := ⟨fun v hv => by rw [List.mem_singleton.1 hv]; exact okV_int (in64_of2 (by decide) (by decide)), in64_of2 (by decide) (by decide), fun o ho => (by cases ho), in64_of2 (by decide) (by decide)⟩
theorem okK_one2 : okK kOne2 := ⟨fun v hv => by rw [List.mem_singleton.1 hv]; exact okV_int (in64_of2 (by decide) (by decide)), in64_of2 (by decide) (by decide), fun o ho => by rw [List.mem_singleton.1 ho]; exact in64_of2 (by decide) (by decide), in64_of2 (by decide) (by decide)⟩
end Go.Proofs.YtkahhoefbphllaaGreat

/- Layer 7: two fields that take each other's value, by definition. -/
namespace Go.Proofs.YtkahhoefbphllaaGreat
open Go.RowKit
set_option linter.unusedVariables false
set_option linter.unusedSimpArgs false
set_option maxRecDepth 20000

def fB : Ex := .mk 2 ⟨#[98]⟩ vZero []
def fsAB : List Fd := [⟨⟨#[97]⟩, 1⟩, ⟨⟨#[98]⟩, 1⟩]
def mvSwap : Mv := ⟨⟨#[109]⟩, 0, 1, conX (vTruth true), [⟨⟨#[97]⟩, fB⟩, ⟨⟨#[98]⟩, fA⟩], -1⟩
def ctSwap (x y : Int) : Ctr := ⟨⟨#[99]⟩, [⟨⟨⟨#[97]⟩, 1⟩, [], vInt x⟩, ⟨⟨⟨#[98]⟩, 1⟩, [], vInt y⟩], [stgS, stgT], [mvSwap]⟩
theorem ne_ab : ((⟨#[97]⟩ : ByteArray).toList == (⟨#[98]⟩ : ByteArray).toList) = false := by
  rw [ByteArray.toList_eq, ByteArray.toList_eq]
  decide
theorem place_ab_a : placeN ⟨#[97]⟩ [⟨#[97]⟩, ⟨#[98]⟩] 0 = 0 := by
  unfold placeN
  rw [if_pos (beq_self_eq_true _)]
  rfl
theorem place_ab_b : placeN ⟨#[98]⟩ [⟨#[97]⟩, ⟨#[98]⟩] 0 = 1 := by
  unfold placeN
  rw [ne_ab, if_neg (by decide)]
  unfold placeN
  rw [if_pos (beq_self_eq_true _)]
  rfl
theorem once_ab : onceN [⟨#[97]⟩, ⟨#[98]⟩] = true := by
  rw [onceN_iff]
  intro i hi
  match i, hi with
  | 0, _ => exact place_ab_a
  | 1, _ => exact place_ab_b
theorem find_ab_a : findX ⟨#[97]⟩ fsAB 0 = 0 := (findX_place _ _ _).trans place_ab_a
theorem find_ab_b : findX ⟨#[98]⟩ fsAB 0 = 1 := (findX_place _ _ _).trans place_ab_b
theorem form_b : formB fB = true := by
  unfold formB
  rw [show fB.op = 2 from rfl, show fB.val = vZero from rfl, show fB.kids = [] from rfl, show sameV vZero vZero = true from same_zero]
  rfl
theorem ck_fa : checkX fA fsAB = (1, 0) := by
  unfold checkX
  rw [if_pos (show smallX fA = true from rfl)]
  show kindX fA [] fsAB = (1, 0)
  rw [kindX_field fA [] fsAB form_a rfl]
  unfold fieldX
  rw [show fA.name = ⟨#[97]⟩ from rfl, find_ab_a]
  rfl
theorem ck_fb : checkX fB fsAB = (1, 0) := by
  unfold checkX
  rw [if_pos (show smallX fB = true from rfl)]
  show kindX fB [] fsAB = (1, 0)
  rw [kindX_field fB [] fsAB form_b rfl]
  unfold fieldX
  rw [show fB.name = ⟨#[98]⟩ from rfl, find_ab_b]
  rfl
theorem fits_int (x : Int) : fitsV (vInt x) 1 [] = 0 := by unfold fitsV; rw [good_int]; rfl
theorem swap_right (x y : Int) : checkC (ctSwap x y) = 0 := by
  have h2 : fieldsR (ctSwap x y) = true := by
    unfold fieldsR
    have h : onceN ((ctSwap x y).fs.map fun f => f.f.name) = true := once_ab
    have hf : ∀ (nm : ByteArray) (i : Int), nameB nm = true → fieldR ⟨⟨nm, 1⟩, [], vInt i⟩ = true := fun nm i hn => by
      unfold fieldR
      rw [show fitsV (⟨⟨nm, 1⟩, [], vInt i⟩ : Fld).y (⟨⟨nm, 1⟩, [], vInt i⟩ : Fld).f.kind (⟨⟨nm, 1⟩, [], vInt i⟩ : Fld).en = 0 from fits_int i, show nameB (⟨⟨nm, 1⟩, [], vInt i⟩ : Fld).f.name = true from hn]
      rfl
    have h3 : (ctSwap x y).fs.all fieldR = true := by
      show ([⟨⟨⟨#[97]⟩, 1⟩, [], vInt x⟩, ⟨⟨⟨#[98]⟩, 1⟩, [], vInt y⟩] : List Fld).all fieldR = true
      rw [List.all_cons, List.all_cons, hf _ x (name_one 97), hf _ y (name_one 98)]; rfl
    rw [h, h3]
    rfl
  have hef : effsR fsAB mvSwap.effs = true := by
    have e1 : effR fsAB ⟨⟨#[97]⟩, fB⟩ = true := by
      unfold effR tellsR
      rw [show findX (⟨⟨#[97]⟩, fB⟩ : Eff).field fsAB 0 = 0 from find_ab_a, show checkX (⟨⟨#[97]⟩, fB⟩ : Eff).e fsAB = (1, 0) from ck_fb]
      rfl
    have e2 : effR fsAB ⟨⟨#[98]⟩, fA⟩ = true := by
      unfold effR tellsR
      rw [show findX (⟨⟨#[98]⟩, fA⟩ : Eff).field fsAB 0 = 1 from find_ab_b, show checkX (⟨⟨#[98]⟩, fA⟩ : Eff).e fsAB = (1, 0) from ck_fa]
      rfl
    unfold effsR
    rw [show onceN (mvSwap.effs.map Eff.field) = true from once_ab]
    show (true && true && ([⟨⟨#[97]⟩, fB⟩, ⟨⟨#[98]⟩, fA⟩] : List Eff).all (effR fsAB)) = true
    rw [List.all_cons, List.all_cons, e1, e2]
    rfl
  have h4 : movesR (ctSwap x y) = true := by
    have h1 : onceN ((ctSwap x y).ms.map Mv.name) = true := once_one _
    have hm : moveR (ctSwap x y) mvSwap = true := by
      have ht : tellsR mvSwap.guard ((ctSwap x y).fs.map Fld.f) 2 = true := by
        unfold tellsR
        rw [show checkX mvSwap.guard ((ctSwap x y).fs.map Fld.f) = (2, 0) from check_con _ _ (good_truth true)]
        rfl
      unfold moveR
      rw [ht, show effsR ((ctSwap x y).fs.map Fld.f) mvSwap.effs = true from hef]
      rfl
    have h3 : (ctSwap x y).ms.all (moveR (ctSwap x y)) = true := by
      show [mvSwap].all (moveR (ctSwap x y)) = true
      rw [List.all_cons, hm]; rfl
    unfold movesR
    rw [h1, h3]
    rfl
  unfold checkC
  rw [show nameB (ctSwap x y).name = true from rfl, h2, show stagesR (ctSwap x y) = true from stages_st _ _, h4]
  rfl
def kSw0 (x y : Int) : Cse := ⟨⟨#[107]⟩, ⟨#[99]⟩, 0, [vInt x, vInt y], [], false, false, 0⟩
def kSw1 (x y : Int) : Cse := ⟨⟨#[107]⟩, ⟨#[99]⟩, 1, [vInt y, vInt x], [], false, false, 1⟩
theorem new_swap (x y : Int) : newK (ctSwap x y) ⟨#[107]⟩ = (kSw0 x y, 0) := by
  unfold newK
  rw [if_pos (swap_right x y), if_pos (name_one 107)]
  rfl
theorem right_swap (x y : Int) : rightK (ctSwap x y) (kSw0 x y) = true := by
  have h := (new_right (c := ctSwap x y) (id := ⟨#[107]⟩) (by rw [new_swap])).1
  rwa [new_swap] at h
theorem fit_swap (x y : Int) : fitX ((ctSwap x y).fs.map Fld.f) (kSw0 x y).vals = true := fitK_fitX (((rightK_iff _ _).1 (right_swap x y)).vn) (((rightK_iff _ _).1 (right_swap x y)).vf)
theorem evK_field {c : Ctr} {k : Cse} {e : Ex} {fs : List Fd} {v : Vl} (hfs : c.fs.map Fld.f = fs) (hc : checkX e fs = (1, 0)) (hf : fitX fs k.vals = true) (ho : e.op = 2) (hv : (k.vals[(findX e.name fs 0).toNat]?).getD vZero = v) (h4 : v.k ≠ 4) : evK c k e = (v, 0) := by
  unfold evK evalP
  rw [hfs, hc, if_neg (fun h => h rfl), hf, if_pos rfl]
  have he : evX 6 e fs k.vals = (v, 0) := by
    rw [evX, if_neg (show ¬ e.op = 1 by omega), if_pos ho, hv]
  rw [he]
  unfold endV setV
  rw [if_pos rfl, if_neg h4]
theorem do_swap (x y : Int) (v : Vl) : doK (ctSwap x y) (kSw0 x y) 5 ⟨#[109]⟩ v 3 = (kSw1 x y, 0) := by
  have hp : placeN ⟨#[109]⟩ ((ctSwap x y).ms.map Mv.name) 0 = 0 := place_one _
  have hfs : (ctSwap x y).fs.map Fld.f = fsAB := rfl
  have hfit : fitX fsAB (kSw0 x y).vals = true := fit_swap x y
  have hy : mayK (ctSwap x y) (kSw0 x y) mvSwap (evK (ctSwap x y) (kSw0 x y)) 3 = 0 := by
    unfold mayK
    rw [if_neg (show ¬ mvSwap.frm ≠ (kSw0 x y).stage from fun h => h rfl), if_neg (show ¬ (0 ≤ mvSwap.org ∧ mvSwap.org ≠ 3) by decide), if_neg (show ¬ (((kSw0 x y).ends.length : Int) < (stgAt (ctSwap x y) (kSw0 x y).stage).need) from (show ¬ ((0 : Int) < 0) by decide))]
    rw [show evK (ctSwap x y) (kSw0 x y) mvSwap.guard = (vTruth true, 0) from evK_con _ _ _ (good_truth true) (by decide) (fit_swap x y)]
    rfl
  have ea : evK (ctSwap x y) (kSw0 x y) fA = (vInt x, 0) := evK_field hfs ck_fa hfit rfl (by rw [show fA.name = ⟨#[97]⟩ from rfl, find_ab_a]; rfl) (show (1 : Int) ≠ 4 by decide)
  have eb : evK (ctSwap x y) (kSw0 x y) fB = (vInt y, 0) := evK_field hfs ck_fb hfit rfl (by rw [show fB.name = ⟨#[98]⟩ from rfl, find_ab_b]; rfl) (show (1 : Int) ≠ 4 by decide)
  have pa : placeN ⟨#[97]⟩ ((ctSwap x y).fs.map fun f => f.f.name) 0 = 0 := place_ab_a
  have pb : placeN ⟨#[98]⟩ ((ctSwap x y).fs.map fun f => f.f.name) 0 = 1 := place_ab_b
  have heff : effK (ctSwap x y) (evK (ctSwap x y) (kSw0 x y)) mvSwap.effs (kSw0 x y).vals = ([vInt y, vInt x], 0) := by
    show effK (ctSwap x y) (evK (ctSwap x y) (kSw0 x y)) [⟨⟨#[97]⟩, fB⟩, ⟨⟨#[98]⟩, fA⟩] [vInt x, vInt y] = _
    rw [effK_cons (f := ⟨⟨⟨#[97]⟩, 1⟩, [], vInt x⟩) (by rw [show (⟨⟨#[97]⟩, fB⟩ : Eff).field = ⟨#[97]⟩ from rfl, pa]; rfl)]
    rw [show (⟨⟨#[97]⟩, fB⟩ : Eff).e = fB from rfl, eb, if_pos rfl, if_pos (fits_int y), show (⟨⟨#[97]⟩, fB⟩ : Eff).field = ⟨#[97]⟩ from rfl, pa]
    rw [effK_cons (f := ⟨⟨⟨#[98]⟩, 1⟩, [], vInt y⟩) (by rw [show (⟨⟨#[98]⟩, fA⟩ : Eff).field = ⟨#[98]⟩ from rfl, pb]; rfl)]
    rw [show (⟨⟨#[98]⟩, fA⟩ : Eff).e = fA from rfl, ea, if_pos rfl, if_pos (fits_int x), show (⟨⟨#[98]⟩, fA⟩ : Eff).field = ⟨#[98]⟩ from rfl, pb]
    rfl
  have h := do_of (c := ctSwap x y) (k := kSw0 x y) (d := 5) (nm := ⟨#[109]⟩) (v := v) (org := 3) (n := { kSw0 x y with stage := 1, vals := [vInt y, vInt x] }) (e := 0) (right_swap x y) (by decide) (by decide) (by decide) (by decide) (show (0 : Int) ≠ 1099511627776 by decide) (by
    unfold stepK
    rw [if_neg (show ¬ barK (kSw0 x y) 5 ≠ 0 from fun h => h rfl), if_neg (show ¬ (5 : Int) = 3 by decide), if_neg (show ¬ (5 : Int) = 4 by decide), if_pos rfl]
    rw [advK_at (m := mvSwap) (by rw [hp]; decide) (by rw [hp]; rfl), if_neg (fun h => h hy), heff]
    rfl)
  rw [h]
  rfl
end Go.Proofs.YtkahhoefbphllaaGreat

/- Layer 6: the law's One and awake. -/
namespace Go.Proofs.YtkahhoefbphllaaGreat
open Go.RowKit
set_option linter.unusedVariables false
set_option linter.unusedSimpArgs false
set_option maxRecDepth 20000

theorem heap_old (w : World) (o : Obj) (k : Nat) (h : k < w.heap.size) : (w.alloc o).heap[k]? = w.heap[k]? := (alloc1 w o).block k h
theorem six_worlds (w : World) (o0 o1 o2 o3 o4 o5 : Obj) :
    ((((((w.alloc o0).alloc o1).alloc o2).alloc o3).alloc o4).alloc o5).heap[w.heap.size]? = some o0 ∧
    ((((((w.alloc o0).alloc o1).alloc o2).alloc o3).alloc o4).alloc o5).heap[w.heap.size + 1 + 1]? = some o2 ∧
    ((((((w.alloc o0).alloc o1).alloc o2).alloc o3).alloc o4).alloc o5).heap[w.heap.size + 1 + 1 + 1]? = some o3 ∧
    ((((((w.alloc o0).alloc o1).alloc o2).alloc o3).alloc o4).alloc o5).heap[w.heap.size + 1 + 1 + 1 + 1]? = some o4 ∧
    ((((((w.alloc o0).alloc o1).alloc o2).alloc o3).alloc o4).alloc o5).heap[w.heap.size + 1 + 1 + 1 + 1 + 1]? = some o5 ∧
    Below w.heap.size w ((((((w.alloc o0).alloc o1).alloc o2).alloc o3).alloc o4).alloc o5) := by
  have n0 := heap_alloc_new w o0
  have n2 := heap_alloc_new ((w.alloc o0).alloc o1) o2
  have n3 := heap_alloc_new (((w.alloc o0).alloc o1).alloc o2) o3
  have n4 := heap_alloc_new ((((w.alloc o0).alloc o1).alloc o2).alloc o3) o4
  have n5 := heap_alloc_new (((((w.alloc o0).alloc o1).alloc o2).alloc o3).alloc o4) o5
  simp only [World.size_alloc] at n2 n3 n4 n5
  refine ⟨?_, ?_, ?_, ?_, n5, bel2 (bel2 (bel2 (bel2 (bel2 (alloc1 _ _) (alloc1 _ _)) (alloc1 _ _)) (alloc1 _ _)) (alloc1 _ _)) (alloc1 _ _)⟩
  · rw [heap_old _ _ _ (by simp only [World.size_alloc]; omega), heap_old _ _ _ (by simp only [World.size_alloc]; omega), heap_old _ _ _ (by simp only [World.size_alloc]; omega), heap_old _ _ _ (by simp only [World.size_alloc]; omega), heap_old _ _ _ (by simp only [World.size_alloc]; omega)]; exact n0
  · rw [heap_old _ _ _ (by simp only [World.size_alloc]; omega), heap_old _ _ _ (by simp only [World.size_alloc]; omega), heap_old _ _ _ (by simp only [World.size_alloc]; omega)]; exact n2
  · rw [heap_old _ _ _ (by simp only [World.size_alloc]; omega), heap_old _ _ _ (by simp only [World.size_alloc]; omega)]; exact n3
  · rw [heap_old _ _ _ (by simp only [World.size_alloc]; omega)]; exact n4
set_option maxHeartbeats 2000000 in
theorem One_any (w : World) : Calls Tryz.prog 32 #[] w (CtP ctOne w) := by
  have hsf := fun (w : World) (a : Addr) (m : Mode) (b : Nat) => run_store Tryz.prog w a (.float .f64 b) m rfl
  go_enter Tryz.func32, Tryz.ntmps32
  go_wp2
  generalize ho0 : Obj.cells #[Value.string { data := #[99] }, Value.slice (some { block := w.heap.size + 1 + 1, off := 0 }) 1 1, Value.slice (some { block := w.heap.size + 1 + 1 + 1 + 1, off := 0 }) 2 2, Value.slice (some { block := w.heap.size + 1 + 1 + 1 + 1 + 1, off := 0 }) 1 1] 33 = o0
  generalize ho2 : Obj.cells #[Value.string { data := #[110] }, Value.int IntKind.i64 1, Value.slice none 0 0, Value.int IntKind.i64 1, Value.int IntKind.i64 0, Value.bool false, Value.string { data := #[] }, Value.float FloatKind.f64 0] 72 = o2
  generalize ho3 : Obj.cells #[Value.int IntKind.i64 0, Value.int IntKind.i64 2] 3 = o3
  generalize ho4 : Obj.cells #[Value.string { data := #[115] }, Value.int IntKind.i64 0, Value.slice none 0 0, Value.string { data := #[116] }, Value.int IntKind.i64 1, Value.slice (some { block := w.heap.size + 1 + 1 + 1, off := 0 }) 2 2] 65 = o4
  generalize ho5 : Obj.cells #[Value.string { data := #[109] }, Value.int IntKind.i64 0, Value.int IntKind.i64 1, Value.int IntKind.i64 1, Value.slice none 0 0, Value.string { data := #[] }, Value.int IntKind.i64 2, Value.int IntKind.i64 0, Value.bool true, Value.string { data := #[] }, Value.float FloatKind.f64 0, Value.slice none 0 0, Value.int IntKind.i64 (-1)] 80 = o5
  generalize hW : (w.alloc o0).alloc _ = W1
  obtain ⟨k0, k2, k3, k4, k5, hb⟩ := six_worlds w o0 (.cells #[Value.int IntKind.i64 1, Value.slice none 0 0, Value.string { data := #[] }, Value.int IntKind.i64 2, Value.int IntKind.i64 0, Value.bool true, Value.string { data := #[] }, Value.float FloatKind.f64 0] 75) o2 o3 o4 o5
  rw [hW] at k0 k2 k3 k4 k5 hb
  generalize ((((W1.alloc o2).alloc o3).alloc o4).alloc o5) = W at *
  rw [← ho0] at k0
  rw [← ho2] at k2
  rw [← ho3] at k3
  rw [← ho4] at k4
  rw [← ho5] at k5
  have hlt : w.heap.size < W.heap.size := (Array.getElem?_eq_some_iff.1 k0).1
  have v0 := at_row k0 0 _ rfl
  have v1 := at_row k0 1 _ rfl
  have v2 := at_row k0 2 _ rfl
  have v3 := at_row k0 3 _ rfl
  clear ho0 ho2 ho3 ho4 ho5 hW
  exact bodyPost_ret (v := agC ⟨#[99]⟩ (some ⟨w.heap.size + 1 + 1, 0, none⟩) 1 1 (some ⟨w.heap.size + 1 + 1 + 1 + 1, 0, none⟩) 2 2 (some ⟨w.heap.size + 1 + 1 + 1 + 1 + 1, 0, none⟩) 1 1) (by simp [results, Tryz.results32, go_sem, v0, v1, v2, v3, hlt]) rfl
    ⟨_, _, _, _, _, _, rfl, ⟨fldk_rows W _ 1 _ none 0 (ss_none W) (by omega) k2, stgk_row W _ _ _ _ k3 k4, mvk_row W _ _ 1 2 true mvYes rfl k5⟩, hb⟩
end Go.Proofs.YtkahhoefbphllaaGreat

/- Layer 6: what is right, said twice: the document asks in another order. -/
namespace Go.Proofs.YtkahhoefbphllaaGreat
open Go.RowKit
set_option linter.unusedVariables false
set_option linter.unusedSimpArgs false

end Go.Proofs.YtkahhoefbphllaaGreat

/- Layer 6: names, the texts of a field, by the document. -/
namespace Go.Proofs.YtkahhoefbphllaaGreat
open Go.RowKit
set_option linter.unusedVariables false
set_option linter.unusedSimpArgs false
set_option maxRecDepth 20000

end Go.Proofs.YtkahhoefbphllaaGreat

/- Layer 6: contracts that are read, by definition: there and back. -/
namespace Go.Proofs.YtkahhoefbphllaaGreat
open Go.RowKit
set_option linter.unusedVariables false
set_option linter.unusedSimpArgs false

/-- so many, one behind the other -/
def getN {α : Type} (G : List UInt8 → Except Int (α × List UInt8)) : Nat → List UInt8 → Except Int (List α × List UInt8)
  | 0, r => .ok ([], r)
  | n + 1, r => match G r with
    | .error e => .error e
    | .ok (x, r1) => match getN G n r1 with
      | .error e => .error e
      | .ok (l, r2) => .ok (x :: l, r2)
/-! there and back -/
end Go.Proofs.YtkahhoefbphllaaGreat

/- Layer 6: what is read of what was put is right, too, and is put alike. -/
namespace Go.Proofs.YtkahhoefbphllaaGreat
open Go.RowKit
set_option linter.unusedVariables false
set_option linter.unusedSimpArgs false

end Go.Proofs.YtkahhoefbphllaaGreat

/- Layer 6: what is read has numbers of theirs; how many there are; what is left. -/
namespace Go.Proofs.YtkahhoefbphllaaGreat
open Go.RowKit
set_option linter.unusedVariables false
set_option linter.unusedSimpArgs false

/-! lists -/
end Go.Proofs.YtkahhoefbphllaaGreat

/- Layer 6: lists that are read: what stands between the rounds. -/
namespace Go.Proofs.YtkahhoefbphllaaGreat
open Go.RowKit
set_option linter.unusedVariables false
set_option linter.unusedSimpArgs false
set_option maxRecDepth 20000

/-- what was read ahead -/
def preN {α : Type} (l : List α) (X : Except Int (List α × List UInt8)) : Except Int (List α × List UInt8) := match X with
  | .error e => .error e
  | .ok (m, r) => .ok (l ++ m, r)
theorem preN_ok {α : Type} {G : List UInt8 → Except Int (α × List UInt8)} {c : Nat} {r r1 : List UInt8} {x : α} (l : List α) (h : G r = .ok (x, r1)) : preN l (getN G (c + 1) r) = preN (l ++ [x]) (getN G c r1) := by
  rw [getN, h]
  dsimp only
  rcases getN G c r1 with e | ⟨m, r2⟩
  · rfl
  · simp [preN]
theorem preN_end {α : Type} (G : List UInt8 → Except Int (α × List UInt8)) (r : List UInt8) (l : List α) : preN l (getN G 0 r) = .ok (l, r) := by
  rw [getN]
  simp [preN]

/-- what a step leaves that reads one: an error, or a part in new memory -/
def ElP {α β : Type} (bad : Value → Prop) (g : Nat) (vl : β → Value) (val : β → α) (ok : (Nat → Prop) → World → β → Prop) (X : Except Int (α × List UInt8)) (w : World) (e : Ending) (w' : World) : Prop := match X with
  | .error er => ∃ u, bad u ∧ e = .returned (.tuple #[u, .int .i64 er]) ∧ (∃ r' e', RdR w' g r' e') ∧ Only g w w'
  | .ok x => ∃ q, val q = x.1 ∧ e = .returned (.tuple #[vl q, .int .i64 0]) ∧ ok (fun b => w.heap.size ≤ b) w' q ∧ RdR w' g x.2 0 ∧ Only g w w'
/-- what a list's step leaves -/
def LsP {α β : Type} (g : Nat) (t : TypeId) (K : Nat) (cells : β → List Value) (val : β → α) (ok : (Nat → Prop) → World → β → Prop) (X : Except Int (List α × List UInt8)) (w : World) (e : Ending) (w' : World) : Prop := match X with
  | .error er => e = .returned (.tuple #[.slice none 0 0, .int .i64 er]) ∧ (∃ r' e', RdR w' g r' e') ∧ Only g w w'
  | .ok x => ∃ (qs : List β) (v : Value), e = .returned (.tuple #[v, .int .i64 0]) ∧ qs.map val = x.1 ∧ w'.ownsRow w.heap.size t K v qs.length (qs.flatMap cells) ∧ (∀ q ∈ qs, ok (fun b => w.heap.size ≤ b ∧ v.ownBlock ≠ some b) w' q) ∧ RdR w' g x.2 0 ∧ Only g w w'
/-- what holds ahead of each round -/
structure LsI {α β : Type} (G : List UInt8 → Except Int (α × List UInt8)) (w : World) (g : Nat) (t : TypeId) (K : Nat) (cells : β → List Value) (val : β → α) (ok : (Nat → Prop) → World → β → Prop) (c : Nat) (L : Except Int (List α × List UInt8)) (wr : World) (k : Nat) (qs : List β) (rk : List UInt8) (row : Value) : Prop where
  cnt : qs.length = k
  pre : preN (qs.map val) (getN G (c - k) rk) = L
  len : rk.length ≤ 1000000000000
  rd : RdR wr g rk 0
  own : wr.ownsRow w.heap.size t K row k (qs.flatMap cells)
  els : ∀ q ∈ qs, ok (fun b => w.heap.size ≤ b ∧ row.ownBlock ≠ some b) wr q
  on : Only g w wr
theorem LsI.next {α β : Type} {G : List UInt8 → Except Int (α × List UInt8)} {w : World} {g : Nat} {t : TypeId} {K : Nat} {cells : β → List Value} {val : β → α} {ok : (Nat → Prop) → World → β → Prop} {c : Nat} {L : Except Int (List α × List UInt8)} {wr w2 w3 w4 : World} {k : Nat} {qs : List β} {rk r1 : List UInt8} {row row' : Value} {q : β}
    (hmv : ∀ (S T : Nat → Prop) (w w' : World) (q : β), Kept S T w w' → w.heap.size ≤ w'.heap.size → ok S w q → ok T w' q) (ht : t ≠ 5) (hgw : g < w.heap.size)
    (h : LsI G w g t K cells val ok c L wr k qs rk row) (hk : k < c) (hx : G rk = .ok (val q, r1)) (hlen : r1.length ≤ rk.length)
    (hel : ok (fun b => wr.heap.size ≤ b) w2 q) (hrd : RdR w2 g r1 0) (hon : Only g wr w2) (hal : Below w2.heap.size w2 w3)
    (hown : w4.ownsRow w.heap.size t K row' (k + 1) (qs.flatMap cells ++ cells q)) (hgr : w3.grownBy w4 row.ownBlock) (hrow : row'.ownBlock = row.ownBlock ∨ row'.ownBlock = some w3.heap.size) :
    LsI G w g t K cells val ok c L w4 (k + 1) (qs ++ [q]) r1 row' := by
  have hz2 := hon.size
  have hz3 := hal.size
  have hz4 := hgr.size
  have hz0 := h.on.size
  have hrow0 := h.own.lt
  have hkeep : ∀ b, b < w2.heap.size → row.ownBlock ≠ some b → w4.heap[b]? = w2.heap[b]? := fun b h1 h3 => by
    rw [hgr.block b (by omega) (fun e => h3 e.symm)]
    exact hal.block b h1
  have hlow : ∀ b, b < w.heap.size → row.ownBlock ≠ some b := fun b hb e => by have := (hrow0 b e).1; omega
  have hrowT : ∀ (b : Nat) (cs : Array Value) (fr : Nat × Nat), w2.heap[b]? = some (Obj.cells cs 5 fr) → row.ownBlock ≠ some b := fun b cs fr hb e => by
    rcases h.own.2 with ⟨rfl, -⟩ | ⟨g', cap, cur, rfl, hbase, hg', -⟩
    · cases e
    · injection e with e
      have e : g' = b := e
      subst e
      have h5 := (hon.block g' (Array.getElem?_eq_some_iff.1 hg').1 (by intro e; injection e with e; omega)).trans hg'
      exact other_block hb h5 (fun e => ht e.symm) rfl
  refine ⟨by rw [List.length_append, h.cnt]; rfl, ?_, by have := h.len; omega, ?_, ?_, ?_, ⟨?_, ?_, ?_, by omega, fun m hm m1 => ?_⟩⟩
  · rw [List.map_append, List.map_cons, List.map_nil, ← h.pre, show c - k = c - (k + 1) + 1 by omega]
    exact (preN_ok _ hx).symm
  · exact hrd.keep (by omega) (hkeep g (by omega) (hlow g hgw)) fun b cs fr hb => hkeep b (Array.getElem?_eq_some_iff.1 hb).1 (hrowT b cs fr hb)
  · rw [List.flatMap_append, List.flatMap_cons, List.flatMap_nil, List.append_nil]
    exact hown
  · intro x hxq
    rcases List.mem_append.1 hxq with hxq | hxq
    · refine hmv _ _ _ _ _ (fun b hb hl => ?_) (by omega) (h.els x hxq)
      refine ⟨(hkeep b (by omega) hb.2).trans (hon.block b hl (by intro e; injection e with e; omega)), hb.1, ?_⟩
      rcases hrow with e | e
      · rw [e]; exact hb.2
      · rw [e]; intro e2; injection e2 with e2; omega
    · rw [List.mem_singleton.1 hxq]
      refine hmv _ _ _ _ _ (fun b hb hl => ?_) (by omega) hel
      have hne : row.ownBlock ≠ some b := fun e => by have := (hrow0 b e).2; omega
      refine ⟨hkeep b hl hne, by omega, ?_⟩
      rcases hrow with e | e
      · rw [e]; exact hne
      · rw [e]; intro e2; injection e2 with e2; omega
  · exact hgr.os.trans (hal.os.trans (hon.os.trans h.on.os))
  · exact hgr.tape.trans (hal.tape.trans (hon.tape.trans h.on.tape))
  · exact hgr.output.trans (hal.output.trans (hon.output.trans h.on.output))
  · exact (hkeep m (by omega) (hlow m hm)).trans ((hon.block m (by omega) m1).trans (h.on.block m hm m1))
theorem LsI.end {α β : Type} {G : List UInt8 → Except Int (α × List UInt8)} {w : World} {g : Nat} {t : TypeId} {K : Nat} {cells : β → List Value} {val : β → α} {ok : (Nat → Prop) → World → β → Prop} {c : Nat} {L : Except Int (List α × List UInt8)} {wr : World} {qs : List β} {rk : List UInt8} {row : Value} (h : LsI G w g t K cells val ok c L wr c qs rk row) : LsP g t K cells val ok L w (.returned (.tuple #[row, .int .i64 0])) wr := by
  have hp := h.pre
  rw [Nat.sub_self, preN_end] at hp
  rw [← hp]
  have ho := h.own
  rw [← h.cnt] at ho
  exact ⟨qs, row, rfl, rfl, ho, h.els, h.rd, h.on⟩
end Go.Proofs.YtkahhoefbphllaaGreat

/- Layer 6: the program's lists are read. (Made by gen/gencgetl.py.) -/
namespace Go.Proofs.YtkahhoefbphllaaGreat
open Go.RowKit
set_option linter.unusedVariables false
set_option linter.unusedSimpArgs false
set_option maxRecDepth 20000

end Go.Proofs.YtkahhoefbphllaaGreat

/- Layer 6: a name, a text, an int are read by the program; lists in one form. (Made by gen/gencgetf.py.) -/
namespace Go.Proofs.YtkahhoefbphllaaGreat
open Go.RowKit
set_option linter.unusedVariables false
set_option linter.unusedSimpArgs false
set_option maxRecDepth 20000

/-- what a list's step leaves, in one form -/
def LsR {α : Type} (g : Nat) (N : (Nat → Prop) → World → Option Addr → Nat → List α → Prop) (X : Except Int (List α × List UInt8)) (w : World) (e : Ending) (w' : World) : Prop := match X with
  | .error er => e = .returned (.tuple #[.slice none 0 0, .int .i64 er]) ∧ (∃ r' e', RdR w' g r' e') ∧ Only g w w'
  | .ok x => ∃ A c, e = .returned (.tuple #[.slice A x.1.length c, .int .i64 0]) ∧ N (fun b => w.heap.size ≤ b) w' A c x.1 ∧ RdR w' g x.2 0 ∧ Only g w w'
theorem LsP.r {α β : Type} {g : Nat} {t : TypeId} {K : Nat} {cells : β → List Value} {val : β → α} {ok : (Nat → Prop) → World → β → Prop} {N : (Nat → Prop) → World → Option Addr → Nat → List α → Prop} {X : Except Int (List α × List UInt8)} {w : World} {e : Ending} {w' : World}
    (hN : ∀ (S T : Nat → Prop) (w' : World) (base n : Nat) (v : Value) (qs : List β), w'.ownsRow base t K v n (qs.flatMap cells) → (∀ q ∈ qs, ok S w' q) → (∀ b, S b → T b) → (∀ b, base ≤ b → T b) → ∃ A c, v = .slice A (qs.map val).length c ∧ N T w' A c (qs.map val))
    (h : LsP g t K cells val ok X w e w') : LsR g N X w e w' := by
  rcases X with er | ⟨l, r⟩
  · exact h
  · obtain ⟨qs, v, h1, h2, h3, h4, h5, h6⟩ := h
    obtain ⟨A, c, rfl, hn⟩ := hN _ (fun b => w.heap.size ≤ b) w' _ _ v qs h3 h4 (fun b hb => hb.1) (fun b hb => hb)
    dsimp only at h2
    subst h2
    exact ⟨A, c, h1, hn, h5, h6⟩
end Go.Proofs.YtkahhoefbphllaaGreat

/- Layer 6: a part is read by the program. (Made by gen/gencgetf.py.) -/
namespace Go.Proofs.YtkahhoefbphllaaGreat
open Go.RowKit
set_option linter.unusedVariables false
set_option linter.unusedSimpArgs false
set_option maxRecDepth 20000

theorem belowZ {w w' : World} {b : Nat} {o : Obj} (h : w.heap[b]? = some o) (hb : Below w.heap.size w w') : w'.heap[b]? = some o := (hb.block b (Array.getElem?_eq_some_iff.1 h).1).trans h
theorem heap_ltZ {w : World} {b : Nat} {o : Obj} (h : w.heap[b]? = some o) : b < w.heap.size := (Array.getElem?_eq_some_iff.1 h).1
theorem setZ {w : World} {b : Nat} {cs : Array Value} {t : TypeId} (h : w.heap[b]? = some (.cells cs t (0, 0))) (j : Nat) (u : Value) : (w.setCell ⟨b, j, none⟩ u).heap[b]? = some (.cells (cs.setIfInBounds j u) t (0, 0)) := by
  simp [World.setCell, Array.getElem?_modify, h]
theorem offZ {w : World} {b k : Nat} {o : Obj} (h : w.heap[b]? = some o) (hne : b ≠ k) (j : Nat) (u : Value) : (w.setCell ⟨k, j, none⟩ u).heap[b]? = some o := (Below.heap_setCell w _ u b hne).trans h
theorem ElP.err {α β : Type} {bad : Value → Prop} {g bz : Nat} {vl : β → Value} {val : β → α} {ok : (Nat → Prop) → World → β → Prop} {er : Int} {w W W' : World} {u : Value} {zs : Array Value} {T : TypeId} {fr : Nat × Nat} (hbad : bad u) (hr : ∃ r' e', RdR W g r' e') (ho : Only g w W) (hz : W.heap[bz]? = some (.cells zs T fr)) (ht : T ≠ 5) (hb : w.heap.size ≤ bz) (hg : g ≠ bz) (hs : Only bz W W') : ElP bad g vl val ok (.error er) w (.returned (.tuple #[u, .int .i64 er])) W' := by
  obtain ⟨r', e', hr⟩ := hr
  exact ⟨u, hbad, rfl, ⟨r', e', hr.offT hs hg hz ht⟩, ho.new hs hb⟩
end Go.Proofs.YtkahhoefbphllaaGreat

/- Layer 7: what is right, by the program: names, values, those who have endorsed. -/
namespace Go.Proofs.YtkahhoefbphllaaGreat
open Go.RowKit
set_option linter.unusedVariables false
set_option linter.unusedSimpArgs false
set_option maxRecDepth 20000

theorem kName_any (s : ByteArray) (w : World) : Calls Tryz.prog 49 #[.string s] w (VGv (.bool (nameB s)) w) := by
  unfold nameB
  by_cases h1 : (1 : Int) ≤ (s.size : Int)
  · by_cases h2 : (s.size : Int) ≤ 16
    · go_enter Tryz.func49, Tryz.ntmps49
      go_wp2
      go_ret
      exact ⟨ret_bool (by simp; omega), rfl⟩
    · go_enter Tryz.func49, Tryz.ntmps49
      go_wp2
      go_ret
      exact ⟨ret_bool (by simp; omega), rfl⟩
  · go_enter Tryz.func49, Tryz.ntmps49
    go_wp2
    go_ret
    exact ⟨ret_bool (by simp; omega), rfl⟩
theorem memI_take (l : List Int) (n : Int) (k : Nat) (hk : k < l.length) : memI n (l.take (k + 1)) = (memI n (l.take k) || (l[k] == n)) := by
  unfold memI; rw [List.take_succ_eq_append_getElem hk, List.any_append]; simp
theorem memI_at (l : List Int) (n : Int) (k : Nat) (hk : k < l.length) (h : l[k] = n) : memI n l = true := (memI_iff n l).2 (h ▸ List.getElem_mem hk)
/-- the place of a number among others -/
def PlaceI (l : List Int) (n : Int) (w : World) (e : Ending) (w' : World) : Prop := ∃ r : Int, e = .returned (.int .i64 r) ∧ decide (0 ≤ r) = memI n l ∧ w = w'
set_option maxHeartbeats 1000000 in
theorem kIndex_any (A : Option Addr) (c : Nat) (l : List Int) (n : Int) (w : World) (hv : Is w (.slice A l.length c) l) : Calls Tryz.prog 202 #[.slice A l.length c, .int .i64 n] w (PlaceI l n w) := by
  obtain ⟨-, hm, hx⟩ := hv.open
  unfold maxLen at hm
  have HX := Lib.hid hx
  clear hx hv
  go_enter Tryz.func202, Tryz.ntmps202
  go_wp2
  go_loop [8] (fun i => ∃ k : Nat, k ≤ l.length ∧ i = .int .i64 k ∧ memI n (l.take k) = false) (fun i => l.length - (intOf i).toNat)
  case atStart => exact ⟨0, Nat.zero_le _, rfl, rfl⟩
  case round =>
    obtain ⟨k, hk, rfl, hno⟩ := hrel
    by_cases hlt : k < l.length
    · have hltI : (k : Int) < (l.length : Int) := by omega
      obtain ⟨ad, rfl, hbl, hcell⟩ := HX.out k hlt
      by_cases heq : l[k] = n
      · have hin : memI n l = true := memI_at l n k hlt heq
        have hb : (n == l[k]) = true := by rw [heq]; simp
        have HI := Lib.hid hin
        clear hin hno heq
        go_wp2
        go_ret
        exact ⟨(k : Int), rfl, by rw [HI.out]; simp, rfl⟩
      · have hnx : memI n (l.take (k + 1)) = false := by rw [memI_take l n k hlt, hno]; simpa using heq
        have hb : (n == l[k]) = false := by simpa using fun h => heq h.symm
        have HN := Lib.hid hnx
        clear hnx hno heq
        go_wp2
        go_round
        case rel => exact ⟨k + 1, by omega, by go_num, HN.out⟩
        case measure => simp [intOf]; omega
    · obtain rfl : k = l.length := by omega
      rw [List.take_length] at hno
      have HN := Lib.hid hno
      clear hno HX
      go_wp2
      go_ret
      exact ⟨-1, rfl, by rw [HN.out]; rfl, rfl⟩
theorem kContains_any (A : Option Addr) (c : Nat) (l : List Int) (n : Int) (w : World) (hv : Is w (.slice A l.length c) l) : Calls Tryz.prog 155 #[.slice A l.length c, .int .i64 n] w (VGv (.bool (memI n l)) w) := by
  have hi : ∀ W, W = w → Calls Tryz.prog 202 #[.slice A l.length c, .int .i64 n] W (PlaceI l n W) := fun W h => by rw [h]; exact kIndex_any A c l n w hv
  clear hv
  go_enter Tryz.func155, Tryz.ntmps155
  go_wp2_with (go_at_call 202; refine (hi _ rfl).mono ?_; rintro e w' ⟨r, rfl, hr, rfl⟩; have HR := Lib.hid hr; clear hr)
  go_ret
  exact ⟨ret_bool HR.out, rfl⟩

/-! values fit fields -/
theorem fitK_drop {vs : List Vl} {fs : List Fld} {k : Nat} (hv : k < vs.length) (hf : k < fs.length) : fitK (vs.drop k) (fs.drop k) = ((fitsV vs[k] fs[k].f.kind fs[k].en == 0) && fitK (vs.drop (k + 1)) (fs.drop (k + 1))) := by
  rw [List.drop_eq_getElem_cons hv, List.drop_eq_getElem_cons hf, fitK]
set_option maxHeartbeats 4000000 in
theorem fitAll_any (VA : Option Addr) (vc : Nat) (vs : List Vl) (FA : Option Addr) (fc : Nat) (fs : List Fld) (w : World) (hv : VlK w VA vc vs) (hf : FldK w FA fc fs) :
    Calls Tryz.prog 92 #[.slice VA vs.length vc, .slice FA fs.length fc] w (VMk (.bool ((vs.length == fs.length) && fitK vs fs)) w) := by
  have hsf := fun (w : World) (a : Addr) (m : Mode) (b : Nat) => run_store Tryz.prog w a (.float .f64 b) m rfl
  by_cases hl : vs.length = fs.length
  case neg =>
    have hb : ((vs.length : Int) != (fs.length : Int)) = true := by simp; omega
    have he : ((vs.length == fs.length) && fitK vs fs) = false := by simp [hl]
    rw [he]
    clear hv hf he hl
    go_enter Tryz.func92, Tryz.ntmps92
    go_wp2
    go_ret
    exact ⟨rfl, Below.refl _ _⟩
  have hb : ((vs.length : Int) != (fs.length : Int)) = false := by simp [hl]
  have he : ((vs.length == fs.length) && fitK vs fs) = fitK vs fs := by simp [hl]
  rw [he]
  have HL := Lib.hid hl
  have hvm : vs.length ≤ 9223372036854775807 := by have h1 := hv.1; have h2 := hv.2.1; unfold maxLen at h2; omega
  have HV := Lib.hid (fun W (hb : Below w.heap.size w W) => hv.below hb (Nat.le_refl _))
  have HF := Lib.hid (fun W (hb : Below w.heap.size w W) => FldK.below hf hb)
  have HVM := Lib.hid hvm
  clear hv hf he hl hvm
  generalize hn : fs.length = n at *
  have HN := Lib.hid hn
  clear hn
  generalize hm : vs.length = m at *
  have HM := Lib.hid hm
  clear hm
  go_enter Tryz.func92, Tryz.ntmps92
  go_wp2
  go_loopw [14] (fun i wr => ∃ k : Nat, k ≤ m ∧ i = .int .i64 k ∧ fitK (vs.drop k) (fs.drop k) = fitK vs fs ∧ Below w.heap.size w wr) (fun i _ => m - (intOf i).toNat)
  case atStart => exact ⟨0, Nat.zero_le _, rfl, rfl, Below.refl _ _⟩
  case round =>
    obtain ⟨k, hk, rfl, hdone, hb0⟩ := hrel
    have HD := Lib.hid hdone
    have HB := Lib.hid hb0
    clear hdone hb0
    by_cases hlt : k < m
    · have hltI : (k : Int) < (m : Int) := by omega
      have hvm := HVM.out
      have hkn : (k : Int) < (n : Int) := by have := HL.out; omega
      have hkv : k < vs.length := by have := HM.out; omega
      have hkf : k < fs.length := by have := HN.out; have := HL.out; omega
      obtain ⟨-, -, -, hvx⟩ := HV.out wr HB.out
      obtain ⟨-, -, -, hfx⟩ := HF.out wr HB.out
      obtain ⟨va, hva, hvb, q0, q1, q2, q3, q4⟩ := hvx k hkv
      subst hva
      obtain ⟨fa, hfa, hfb, EA, ec, ⟨p0, p1, p2, p3, p4, p5, p6, p7⟩, hss⟩ := hfx k hkf
      subst hfa
      have hdrop := fitK_drop hkv hkf
      have hfit := fun W (hW : Below wr.heap.size wr W) => Fits_val vs[k] fs[k].f.name fs[k].f.kind (.slice EA fs[k].en.length ec) fs[k].y fs[k].en W (hss.below hW (Nat.le_refl _))
      have HDR := Lib.hid (hdrop.symm.trans HD.out)
      have HFT := Lib.hid hfit
      clear hdrop hfit hvx hfx hss
      have HBW := Lib.hid (alloc1 wr (.cells #[.int .i64 (vs[k]).k, .int .i64 (vs[k]).i, .bool (vs[k]).b, .string (vs[k]).s, .float .f64 (vs[k]).n] 55))
      generalize vs[k] = x at *
      generalize fs[k] = f at *
      go_upto_region 6 with fail
      have hbx := heap_alloc_new wr (.cells #[.int .i64 x.k, .int .i64 x.i, .bool x.b, .string x.s, .float .f64 x.n] 55)
      obtain ⟨p0, p1, p2, p3, p4, p5, p6, p7⟩ := (show Fdp wr (fa.add (k * 8)) f.f.name f.f.kind EA f.en.length ec f.y from ⟨p0, p1, p2, p3, p4, p5, p6, p7⟩).below HBW.out (by rw [block_add]; exact hfb)
      generalize hw1 : wr.alloc (.cells #[.int .i64 x.k, .int .i64 x.i, .bool x.b, .string x.s, .float .f64 x.n] 55) = w1 at *
      have b0 := (heap_at hbx 0).trans (rfl : _ = some (Value.int .i64 x.k))
      have b1 := (heap_at hbx 1).trans (rfl : _ = some (Value.int .i64 x.i))
      have b2 := (heap_at hbx 2).trans (rfl : _ = some (Value.bool x.b))
      have b3 := (heap_at hbx 3).trans (rfl : _ = some (Value.string x.s))
      have b4 := (heap_at hbx 4).trans (rfl : _ = some (Value.float .f64 x.n))
      have HK := Lib.hid (show ∀ W, Below w1.heap.size w1 W → (fun W => Below w1.heap.size w1 W ∧ W.cell? ⟨wr.heap.size, 0, none⟩ = some (.int .i64 x.k) ∧ W.cell? ⟨wr.heap.size, 1, none⟩ = some (.int .i64 x.i) ∧ W.cell? ⟨wr.heap.size, 2, none⟩ = some (.bool x.b) ∧ W.cell? ⟨wr.heap.size, 3, none⟩ = some (.string x.s) ∧ W.cell? ⟨wr.heap.size, 4, none⟩ = some (.float .f64 x.n) ∧ W.cell? (fa.add (k * 8)) = some (.string f.f.name) ∧ W.cell? ⟨(fa.add (k * 8)).block, (fa.add (k * 8)).off + 1, none⟩ = some (.int .i64 f.f.kind) ∧ W.cell? ⟨(fa.add (k * 8)).block, (fa.add (k * 8)).off + 2, none⟩ = some (.slice EA f.en.length ec) ∧ W.cell? ⟨(fa.add (k * 8)).block, (fa.add (k * 8)).off + 3, none⟩ = some (.int .i64 f.y.k) ∧ W.cell? ⟨(fa.add (k * 8)).block, (fa.add (k * 8)).off + 4, none⟩ = some (.int .i64 f.y.i) ∧ W.cell? ⟨(fa.add (k * 8)).block, (fa.add (k * 8)).off + 5, none⟩ = some (.bool f.y.b) ∧ W.cell? ⟨(fa.add (k * 8)).block, (fa.add (k * 8)).off + 6, none⟩ = some (.string f.y.s) ∧ W.cell? ⟨(fa.add (k * 8)).block, (fa.add (k * 8)).off + 7, none⟩ = some (.float .f64 f.y.n)) W from fun W h => ⟨h, (h.cell (World.block_lt_of_cell? _ _ b0)).trans b0, (h.cell (World.block_lt_of_cell? _ _ b1)).trans b1, (h.cell (World.block_lt_of_cell? _ _ b2)).trans b2, (h.cell (World.block_lt_of_cell? _ _ b3)).trans b3, (h.cell (World.block_lt_of_cell? _ _ b4)).trans b4, (h.cell (World.block_lt_of_cell? _ _ p0)).trans p0, (h.cell (World.block_lt_of_cell? _ _ p1)).trans p1, (h.cell (World.block_lt_of_cell? _ _ p2)).trans p2, (h.cell (World.block_lt_of_cell? _ _ p3)).trans p3, (h.cell (World.block_lt_of_cell? _ _ p4)).trans p4, (h.cell (World.block_lt_of_cell? _ _ p5)).trans p5, (h.cell (World.block_lt_of_cell? _ _ p6)).trans p6, (h.cell (World.block_lt_of_cell? _ _ p7)).trans p7⟩)
      have HBr0 := Lib.hid (show Below w1.heap.size w1 w1.drew from (Below.refl _ _).drew)
      have HS0 := Lib.hid (HK.out w1.drew HBr0.out)
      go_region_held3 (fun W => Below w1.heap.size w1 W ∧ W.cell? ⟨wr.heap.size, 0, none⟩ = some (.int .i64 x.k) ∧ W.cell? ⟨wr.heap.size, 1, none⟩ = some (.int .i64 x.i) ∧ W.cell? ⟨wr.heap.size, 2, none⟩ = some (.bool x.b) ∧ W.cell? ⟨wr.heap.size, 3, none⟩ = some (.string x.s) ∧ W.cell? ⟨wr.heap.size, 4, none⟩ = some (.float .f64 x.n) ∧ W.cell? (fa.add (k * 8)) = some (.string f.f.name) ∧ W.cell? ⟨(fa.add (k * 8)).block, (fa.add (k * 8)).off + 1, none⟩ = some (.int .i64 f.f.kind) ∧ W.cell? ⟨(fa.add (k * 8)).block, (fa.add (k * 8)).off + 2, none⟩ = some (.slice EA f.en.length ec) ∧ W.cell? ⟨(fa.add (k * 8)).block, (fa.add (k * 8)).off + 3, none⟩ = some (.int .i64 f.y.k) ∧ W.cell? ⟨(fa.add (k * 8)).block, (fa.add (k * 8)).off + 4, none⟩ = some (.int .i64 f.y.i) ∧ W.cell? ⟨(fa.add (k * 8)).block, (fa.add (k * 8)).off + 5, none⟩ = some (.bool f.y.b) ∧ W.cell? ⟨(fa.add (k * 8)).block, (fa.add (k * 8)).off + 6, none⟩ = some (.string f.y.s) ∧ W.cell? ⟨(fa.add (k * 8)).block, (fa.add (k * 8)).off + 7, none⟩ = some (.float .f64 f.y.n)) (first | assumption | exact HK.out _ HBr1.out | exact HS0.out) (first
          | (go_at_call 154; refine (HFT.out _ (bel2 HBW.out HBr0.out)).mono ?_; rintro e wr1 ⟨rfl, hbr1⟩; have HBr1 := Lib.hid (bel2 HBr0.out hbr1); clear hbr1))
      by_cases hz : fitsV x f.f.kind f.en = 0
      · have hzb : (fitsV x f.f.kind f.en != 0) = false := by simp [hz]
        have HZ := Lib.hid hz
        clear hz
        go_wp2
        go_roundw
        case rel => exact ⟨k + 1, by omega, by go_num, by have h := HDR.out; rw [HZ.out] at h; simpa using h, bel2 HB.out (bel2 HBW.out HBr1.out)⟩
        case measure => simp [intOf]; omega
      · have hzb : (fitsV x f.f.kind f.en != 0) = true := by simpa using hz
        have HZ := Lib.hid hz
        clear hz
        go_wp2
        go_ret
        exact ⟨ret_bool (by have h := HDR.out; rw [← h]; simp [HZ.out]), bel2 HB.out (bel2 HBW.out HBr1.out)⟩
    · obtain rfl : k = m := by omega
      have hltI : ¬ (k : Int) < (k : Int) := by omega
      have hfin : fitK vs fs = true := by
        rw [← HD.out, List.drop_of_length_le (by have := HM.out; omega)]
        rfl
      have HFI := Lib.hid hfin
      clear hfin
      go_wp2
      go_ret
      exact ⟨ret_bool (by rw [HFI.out]), HB.out⟩
end Go.Proofs.YtkahhoefbphllaaGreat

/- Layer 7: those who have endorsed rise, and are the stage's. (Made by gen/gencase.py.) -/
namespace Go.Proofs.YtkahhoefbphllaaGreat
open Go.RowKit
set_option linter.unusedVariables false
set_option linter.unusedSimpArgs false
set_option maxRecDepth 20000

set_option maxHeartbeats 1000000 in
theorem rightEnds_any (EA : Option Addr) (ec : Nat) (ends : List Int) (s : Stg) (A : Option Addr) (c : Nat) (w : World) (he : Is w (.slice EA ends.length ec) ends) (hs : Is w (.slice A s.orgs.length c) s.orgs) :
    Calls Tryz.prog 93 #[.slice EA ends.length ec, .agg #[.string s.name, .int .i64 s.need, .slice A s.orgs.length c]] w (VMk (.bool (endsR s.orgs (-1) ends)) w) := by
  have HB := Lib.hid (alloc1 w (.cells #[.string s.name, .int .i64 s.need, .slice A s.orgs.length c] 65))
  have hbx := heap_alloc_new w (.cells #[.string s.name, .int .i64 s.need, .slice A s.orgs.length c] 65)
  have HE := Lib.hid (Rd.below he HB.out (Nat.le_refl _))
  have HS := Lib.hid (Rd.below hs HB.out (Nat.le_refl _))
  clear he hs
  go_enter Tryz.func93, Tryz.ntmps93
  go_upto_region 1 with fail
  generalize w.alloc (.cells #[.string s.name, .int .i64 s.need, .slice A s.orgs.length c] 65) = w0 at *
  have c2 := (heap_at hbx 2).trans (rfl : _ = some (Value.slice A s.orgs.length c))
  clear hbx
  have HCT := Lib.hid (fun (o : Int) W (h : W = w0) => show Calls Tryz.prog 155 #[.slice A s.orgs.length c, .int .i64 o] W (VGv (.bool (memI o s.orgs)) W) from kContains_any A c s.orgs o W (by rw [h]; exact HS.out))
  obtain ⟨-, hm, hx⟩ := (show Is w0 (.slice EA ends.length ec) ends from HE.out).open
  unfold maxLen at hm
  have HX := Lib.hid hx
  clear hx
  generalize s.orgs = orgs at *
  go_wp2
  go_loopw [5, 10] (fun a i wr => ∃ (k : Nat) (av : Int), k ≤ ends.length ∧ i = .int .i64 k ∧ a = .int .i64 av ∧ endsR orgs av (ends.drop k) = endsR orgs (-1) ends ∧ w0 = wr) (fun _ i _ => ends.length - (intOf i).toNat)
  case atStart => exact ⟨0, -1, Nat.zero_le _, rfl, rfl, rfl, rfl⟩
  case round =>
    obtain ⟨k, av, hk, rfl, rfl, hdone, rfl⟩ := hrel
    by_cases hlt : k < ends.length
    · have hltI : (k : Int) < (ends.length : Int) := by omega
      obtain ⟨ad, rfl, hbl, hcell⟩ := HX.out k hlt
      rw [List.drop_eq_getElem_cons hlt, endsR] at hdone
      have HD := Lib.hid hdone
      clear hdone
      generalize ends[k] = o at *
      by_cases h1 : o ≤ av
      · have HR := Lib.hid (show endsR orgs (-1) ends = false by rw [← HD.out]; simp [h1])
        go_wp2
        go_ret
        exact ⟨ret_bool (by rw [HR.out]), HB.out⟩
      · rcases hmm : memI o orgs with _ | _
        · have HR := Lib.hid (show endsR orgs (-1) ends = false by rw [← HD.out, hmm]; simp)
          have HM := Lib.hid hmm
          clear hmm
          go_wp2_with (go_at_call 155; refine (HCT.out o _ rfl).mono ?_; rintro e w' ⟨rfl, rfl⟩; have hmb := HM.out)
          go_ret
          exact ⟨ret_bool (by rw [HR.out]), HB.out⟩
        · have HR := Lib.hid (show endsR orgs o (ends.drop (k + 1)) = endsR orgs (-1) ends by rw [← HD.out, hmm]; simp [h1])
          have HM := Lib.hid hmm
          clear hmm
          go_wp2_with (go_at_call 155; refine (HCT.out o _ rfl).mono ?_; rintro e w' ⟨rfl, rfl⟩; have hmb := HM.out)
          go_roundw
          case rel => exact ⟨k + 1, o, by omega, by go_num, rfl, HR.out, by trivial⟩
          case measure => simp [intOf]; omega
    · obtain rfl : k = ends.length := by omega
      have hltI : ¬ (ends.length : Int) < (ends.length : Int) := by omega
      have HR := Lib.hid (show endsR orgs (-1) ends = true by rw [← hdone, List.drop_length]; rfl)
      clear hdone
      go_wp2
      go_ret
      exact ⟨ret_bool (by rw [HR.out]), HB.out⟩
end Go.Proofs.YtkahhoefbphllaaGreat
