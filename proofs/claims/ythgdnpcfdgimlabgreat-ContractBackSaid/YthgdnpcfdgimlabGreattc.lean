/- tc: CFind COnce CEach CEff CStage CRight CTexts CTexts2 CField CEff2 CPutL CMv CPut CChk CPut2 CAw0 CAw CFew CNew CGetD CNorm CGetK CGetP (made by shake.py). -/
import Derived.Laws.EntriesVeiled
import Derived.BigQuiet
import Derived.Deep.RegionHeld3
import Derived.Deep.RegionWith
import Derived.Test.YthgdnpcfdgimlabGreattb
/- Layer 6: Field, Stage, Move, by program and document. (Made by gen/gencfind.py.) -/
namespace Go.Proofs.YthgdnpcfdgimlabGreat
open Go.RowKit
set_option linter.unusedVariables false
set_option linter.unusedSimpArgs false
set_option maxRecDepth 20000

theorem clo_Field (p : Nat) (nm : ByteArray) (x : Fld) (A : Option Addr) (c : Nat) (w : World) (h : w.cell? ⟨p, 0, none⟩ = some (.string nm)) :
    Calls Tryz.prog 40 #[agFl x A c, .pointer (some ⟨p, 0, none⟩)] w (VMk (.bool (x.f.name.toList == nm.toList)) w) := by
  have hp : p < w.heap.size := World.block_lt_of_cell? w _ h
  generalize hb : (x.f.name.toList == nm.toList) = b
  have hne : ¬ w.heap.size = p := by omega
  go_enter Tryz.func40, Tryz.ntmps40
  go_wp2
  go_ret
  exact ⟨rfl, (Below.refl _ _).alloc (Nat.le_refl _) _⟩
theorem first_Field (nm : ByteArray) : ∀ (l : List Fld) (i : Nat), firstB (fun x => x.f.name.toList == nm.toList) l i = placeN nm (l.map fun x => x.f.name) i
  | [], _ => rfl
  | x :: l, i => by
    rw [firstB, List.map_cons, placeN, first_Field nm l (i + 1)]
set_option maxHeartbeats 1000000 in
/-- contract.Field -/
theorem cField_any (ct : Ctr) (FA : Option Addr) (fc : Nat) (SA : Option Addr) (sc : Nat) (MA : Option Addr) (mc : Nat) (nm : ByteArray) (w : World) (h : CtK w ct FA fc SA sc MA mc) :
    Calls Tryz.prog 13 #[agC ct.name FA ct.fs.length fc SA ct.ss.length sc MA ct.ms.length mc, .string nm] w (VMk (.int .i64 (placeN nm (ct.fs.map fun x => x.f.name) 0)) w) := by
  have hb2 := ((Below.refl w.heap.size w).alloc (Nat.le_refl _) (.cells #[.string ct.name, .slice FA ct.fs.length fc, .slice SA ct.ss.length sc, .slice MA ct.ms.length mc] 26)).alloc (by simp) (.cells #[.string nm] 9)
  have hcell : ((w.alloc (.cells #[.string ct.name, .slice FA ct.fs.length fc, .slice SA ct.ss.length sc, .slice MA ct.ms.length mc] 26)).alloc (.cells #[.string nm] 9)).cell? ⟨w.heap.size + 1, 0, none⟩ = some (.string nm) := by
    have h := heap_alloc_new (w.alloc (.cells #[.string ct.name, .slice FA ct.fs.length fc, .slice SA ct.ss.length sc, .slice MA ct.ms.length mc] 26)) (.cells #[.string nm] 9)
    rw [World.size_alloc] at h
    exact (cell_of_row _ _ 0 _ _ (0, 0) h).trans rfl
  have hi := idx_Field (fun x => x.f.name.toList == nm.toList) (w.heap.size + 1) FA fc ct.fs _ ((FldK.below h.f hb2)) (fun x _ A c W hW _ => clo_Field (w.heap.size + 1) nm x A c W (keepc hW (World.block_lt_of_cell? _ _ hcell) hcell))
  rw [first_Field] at hi
  have HI := Lib.hid hi
  have HB := Lib.hid hb2
  clear hi hb2 hcell h
  go_enter Tryz.func13, Tryz.ntmps13
  go_wp2_with (go_at_call 39; refine HI.out.mono ?_; rintro e w1 ⟨rfl, hb1⟩)
  go_ret
  exact ⟨rfl, HB.out.trans (hb1.mono HB.out.size)⟩
theorem clo_Stage (p : Nat) (nm : ByteArray) (x : Stg) (A : Option Addr) (c : Nat) (w : World) (h : w.cell? ⟨p, 0, none⟩ = some (.string nm)) :
    Calls Tryz.prog 42 #[agSt x A c, .pointer (some ⟨p, 0, none⟩)] w (VMk (.bool (x.name.toList == nm.toList)) w) := by
  have hp : p < w.heap.size := World.block_lt_of_cell? w _ h
  generalize hb : (x.name.toList == nm.toList) = b
  have hne : ¬ w.heap.size = p := by omega
  go_enter Tryz.func42, Tryz.ntmps42
  go_wp2
  go_ret
  exact ⟨rfl, (Below.refl _ _).alloc (Nat.le_refl _) _⟩
theorem first_Stage (nm : ByteArray) : ∀ (l : List Stg) (i : Nat), firstB (fun x => x.name.toList == nm.toList) l i = placeN nm (l.map fun x => x.name) i
  | [], _ => rfl
  | x :: l, i => by
    rw [firstB, List.map_cons, placeN, first_Stage nm l (i + 1)]
set_option maxHeartbeats 1000000 in
/-- contract.Stage -/
theorem cStage_any (ct : Ctr) (FA : Option Addr) (fc : Nat) (SA : Option Addr) (sc : Nat) (MA : Option Addr) (mc : Nat) (nm : ByteArray) (w : World) (h : CtK w ct FA fc SA sc MA mc) :
    Calls Tryz.prog 15 #[agC ct.name FA ct.fs.length fc SA ct.ss.length sc MA ct.ms.length mc, .string nm] w (VMk (.int .i64 (placeN nm (ct.ss.map fun x => x.name) 0)) w) := by
  have hb2 := ((Below.refl w.heap.size w).alloc (Nat.le_refl _) (.cells #[.string ct.name, .slice FA ct.fs.length fc, .slice SA ct.ss.length sc, .slice MA ct.ms.length mc] 26)).alloc (by simp) (.cells #[.string nm] 9)
  have hcell : ((w.alloc (.cells #[.string ct.name, .slice FA ct.fs.length fc, .slice SA ct.ss.length sc, .slice MA ct.ms.length mc] 26)).alloc (.cells #[.string nm] 9)).cell? ⟨w.heap.size + 1, 0, none⟩ = some (.string nm) := by
    have h := heap_alloc_new (w.alloc (.cells #[.string ct.name, .slice FA ct.fs.length fc, .slice SA ct.ss.length sc, .slice MA ct.ms.length mc] 26)) (.cells #[.string nm] 9)
    rw [World.size_alloc] at h
    exact (cell_of_row _ _ 0 _ _ (0, 0) h).trans rfl
  have hi := idx_Stage (fun x => x.name.toList == nm.toList) (w.heap.size + 1) SA sc ct.ss _ ((StgK.below h.s hb2)) (fun x _ A c W hW _ => clo_Stage (w.heap.size + 1) nm x A c W (keepc hW (World.block_lt_of_cell? _ _ hcell) hcell))
  rw [first_Stage] at hi
  have HI := Lib.hid hi
  have HB := Lib.hid hb2
  clear hi hb2 hcell h
  go_enter Tryz.func15, Tryz.ntmps15
  go_wp2_with (go_at_call 41; refine HI.out.mono ?_; rintro e w1 ⟨rfl, hb1⟩)
  go_ret
  exact ⟨rfl, HB.out.trans (hb1.mono HB.out.size)⟩
theorem clo_Move (p : Nat) (nm : ByteArray) (x : Mv) (A : Option Addr) (c : Nat) (EA : Option Addr) (ec : Nat) (w : World) (h : w.cell? ⟨p, 0, none⟩ = some (.string nm)) :
    Calls Tryz.prog 44 #[agMv x A c EA ec, .pointer (some ⟨p, 0, none⟩)] w (VMk (.bool (x.name.toList == nm.toList)) w) := by
  have hp : p < w.heap.size := World.block_lt_of_cell? w _ h
  generalize hb : (x.name.toList == nm.toList) = b
  have hne : ¬ w.heap.size = p := by omega
  go_enter Tryz.func44, Tryz.ntmps44
  go_wp2
  go_ret
  exact ⟨rfl, (Below.refl _ _).alloc (Nat.le_refl _) _⟩
theorem first_Move (nm : ByteArray) : ∀ (l : List Mv) (i : Nat), firstB (fun x => x.name.toList == nm.toList) l i = placeN nm (l.map fun x => x.name) i
  | [], _ => rfl
  | x :: l, i => by
    rw [firstB, List.map_cons, placeN, first_Move nm l (i + 1)]
set_option maxHeartbeats 1000000 in
/-- contract.Move -/
theorem cMove_any (ct : Ctr) (FA : Option Addr) (fc : Nat) (SA : Option Addr) (sc : Nat) (MA : Option Addr) (mc : Nat) (nm : ByteArray) (w : World) (h : CtK w ct FA fc SA sc MA mc) :
    Calls Tryz.prog 17 #[agC ct.name FA ct.fs.length fc SA ct.ss.length sc MA ct.ms.length mc, .string nm] w (VMk (.int .i64 (placeN nm (ct.ms.map fun x => x.name) 0)) w) := by
  have hb2 := ((Below.refl w.heap.size w).alloc (Nat.le_refl _) (.cells #[.string ct.name, .slice FA ct.fs.length fc, .slice SA ct.ss.length sc, .slice MA ct.ms.length mc] 26)).alloc (by simp) (.cells #[.string nm] 9)
  have hcell : ((w.alloc (.cells #[.string ct.name, .slice FA ct.fs.length fc, .slice SA ct.ss.length sc, .slice MA ct.ms.length mc] 26)).alloc (.cells #[.string nm] 9)).cell? ⟨w.heap.size + 1, 0, none⟩ = some (.string nm) := by
    have h := heap_alloc_new (w.alloc (.cells #[.string ct.name, .slice FA ct.fs.length fc, .slice SA ct.ss.length sc, .slice MA ct.ms.length mc] 26)) (.cells #[.string nm] 9)
    rw [World.size_alloc] at h
    exact (cell_of_row _ _ 0 _ _ (0, 0) h).trans rfl
  have hi := idx_Move (fun x => x.name.toList == nm.toList) (w.heap.size + 1) MA mc ct.ms _ ((MvK.below h.m hb2)) (fun x _ A c EA ec W hW _ => clo_Move (w.heap.size + 1) nm x A c EA ec W (keepc hW (World.block_lt_of_cell? _ _ hcell) hcell))
  rw [first_Move] at hi
  have HI := Lib.hid hi
  have HB := Lib.hid hb2
  clear hi hb2 hcell h
  go_enter Tryz.func17, Tryz.ntmps17
  go_wp2_with (go_at_call 43; refine HI.out.mono ?_; rintro e w1 ⟨rfl, hb1⟩)
  go_ret
  exact ⟨rfl, HB.out.trans (hb1.mono HB.out.size)⟩
end Go.Proofs.YthgdnpcfdgimlabGreat

/- Layer 6: names that stand once. (Made by gen/gencfind.py.) -/
namespace Go.Proofs.YthgdnpcfdgimlabGreat
open Go.RowKit
set_option linter.unusedVariables false
set_option linter.unusedSimpArgs false
set_option maxRecDepth 20000

/-- each tells its own place, from i on -/
def onceF {α : Type} (g : α → Int) : List α → Nat → Bool
  | [], _ => true
  | x :: l, i => (g x == (i : Int)) && onceF g l (i + 1)
set_option maxHeartbeats 1000000 in
theorem once_Field (g : Fld → Int) (p : Nat) (A : Option Addr) (cc : Nat) (l : List Fld) (w : World) (hf : FldK w A cc l)
    (hcall : ∀ x ∈ l, ∀ (A : Option Addr) (c : Nat) W, Below w.heap.size w W → Calls Tryz.prog 69 #[agFl x A c, .pointer (some ⟨p, 0, none⟩)] W (VMk (.int .i64 (g x)) W)) :
    Calls Tryz.prog 68 #[.slice A l.length cc, .func (Fn.func 69) #[] #[.pointer (some ⟨p, 0, none⟩)]] w (VMk (.bool (onceF g l 0)) w) := by
  obtain ⟨h1, h2, h3, h4⟩ := hf
  unfold maxLen at h2
  have hlen : l.length ≤ 9223372036854775807 := by omega
  have HP := Lib.hid hcall
  have H4 := Lib.hid h4
  clear hcall h4 h1 h2 h3
  have hsf := fun (w : World) (a : Addr) (m : Mode) (b : Nat) => run_store Tryz.prog w a (.float .f64 b) m rfl
  go_enter Tryz.func68, Tryz.ntmps68
  go_wp2
  go_loopw [9] (fun i wr => ∃ k : Nat, k ≤ l.length ∧ i = .int .i64 k ∧ onceF g (l.drop k) k = onceF g l 0 ∧ Below w.heap.size w wr) (fun i _ => l.length - (intOf i).toNat)
  case atStart => exact ⟨0, Nat.zero_le _, rfl, rfl, Below.refl _ _⟩
  case round =>
    obtain ⟨k, hk, rfl, hfi, hb⟩ := hrel
    by_cases hlt : k < l.length
    · obtain ⟨ad, rfl, hbl, hpart⟩ := H4.out k hlt
      have hpart2 := hpart.below hb (by rw [block_add]; exact hbl)
      have hmem := List.getElem_mem hlt
      rw [List.drop_eq_getElem_cons hlt, onceF] at hfi
      generalize l[k] = x at *
      obtain ⟨A, c, hq, hdeep⟩ := hpart2
      have q0 : wr.cell? (ad.add (k * 8)) = some (.string x.f.name) := hq.1
      have q1 : wr.cell? ⟨(ad.add (k * 8)).block, (ad.add (k * 8)).off + 1, none⟩ = some (.int .i64 x.f.kind) := hq.2.1
      have q2 : wr.cell? ⟨(ad.add (k * 8)).block, (ad.add (k * 8)).off + 2, none⟩ = some (.slice A x.en.length c) := hq.2.2.1
      have q3 : wr.cell? ⟨(ad.add (k * 8)).block, (ad.add (k * 8)).off + 3, none⟩ = some (.int .i64 x.y.k) := hq.2.2.2.1
      have q4 : wr.cell? ⟨(ad.add (k * 8)).block, (ad.add (k * 8)).off + 4, none⟩ = some (.int .i64 x.y.i) := hq.2.2.2.2.1
      have q5 : wr.cell? ⟨(ad.add (k * 8)).block, (ad.add (k * 8)).off + 5, none⟩ = some (.bool x.y.b) := hq.2.2.2.2.2.1
      have q6 : wr.cell? ⟨(ad.add (k * 8)).block, (ad.add (k * 8)).off + 6, none⟩ = some (.string x.y.s) := hq.2.2.2.2.2.2.1
      have q7 : wr.cell? ⟨(ad.add (k * 8)).block, (ad.add (k * 8)).off + 7, none⟩ = some (.float .f64 x.y.n) := hq.2.2.2.2.2.2.2
      have hc := fun o => HP.out x hmem A c (wr.alloc o) (hb.trans ((alloc1 wr o).mono hb.size))
      clear hpart hmem
      have HC := Lib.hid hc
      rcases hd : (g x == (k : Int)) with _ | _
      all_goals
        rw [hd] at hfi
        have hne : (g x != (k : Int)) = !(g x == (k : Int)) := rfl
        rw [hd] at hne
        have HF := Lib.hid hfi
        clear hfi hd hc hq hdeep
        try simp only [Bool.not_true, Bool.not_false] at hne
        go_wp2_with (first | fail | (go_at_call 69; refine (HC.out _).mono ?_; rintro e w1 ⟨rfl, hb1⟩))
      · go_ret
        exact ⟨ret_bool (by have h := HF.out; simpa using h), (hb.trans ((alloc1 wr _).mono hb.size)).trans (hb1.mono (Nat.le_trans hb.size (alloc1 wr _).size))⟩
      · go_roundw
        case rel => exact ⟨k + 1, by omega, by go_num, by have h := HF.out; simpa using h, (hb.trans ((alloc1 wr _).mono hb.size)).trans (hb1.mono (Nat.le_trans hb.size (alloc1 wr _).size))⟩
        case measure => simp [intOf]; omega
    · obtain rfl : k = l.length := by omega
      rw [List.drop_length, onceF] at hfi
      have HF := Lib.hid hfi
      clear hfi
      go_wp2
      go_ret
      exact ⟨ret_bool HF.out, hb⟩
/-- the closure that tells where one of that name stands first -/
theorem clo1_Field (p : Nat) (ct : Ctr) (FA : Option Addr) (fc : Nat) (SA : Option Addr) (sc : Nat) (MA : Option Addr) (mc : Nat) (x : Fld) (A : Option Addr) (c : Nat) (w : World)
    (h0 : w.cell? ⟨p, 0, none⟩ = some (.string ct.name)) (h1 : w.cell? ⟨p, 1, none⟩ = some (.slice FA ct.fs.length fc)) (h2 : w.cell? ⟨p, 2, none⟩ = some (.slice SA ct.ss.length sc)) (h3 : w.cell? ⟨p, 3, none⟩ = some (.slice MA ct.ms.length mc)) (h : CtK w ct FA fc SA sc MA mc) :
    Calls Tryz.prog 69 #[agFl x A c, .pointer (some ⟨p, 0, none⟩)] w (VMk (.int .i64 (placeN x.f.name (ct.fs.map fun x => x.f.name) 0)) w) := by
  have hp : p < w.heap.size := World.block_lt_of_cell? w _ h0
  have hne : ¬ w.heap.size = p := by omega
  have HC := Lib.hid (fun o => cField_any ct FA fc SA sc MA mc x.f.name (w.alloc o) (h.below (alloc1 w o)))
  clear h
  generalize placeN x.f.name (ct.fs.map fun x => x.f.name) 0 = r at *
  go_enter Tryz.func69, Tryz.ntmps69
  go_wp2_with (go_at_call 13; refine (HC.out _).mono ?_; rintro e w1 ⟨rfl, hb1⟩)
  go_ret
  exact ⟨rfl, bel2 (alloc1 w _) hb1⟩
set_option maxHeartbeats 1000000 in
theorem once_Stage (g : Stg → Int) (p : Nat) (A : Option Addr) (cc : Nat) (l : List Stg) (w : World) (hf : StgK w A cc l)
    (hcall : ∀ x ∈ l, ∀ (A : Option Addr) (c : Nat) W, Below w.heap.size w W → Calls Tryz.prog 73 #[agSt x A c, .pointer (some ⟨p, 0, none⟩)] W (VMk (.int .i64 (g x)) W)) :
    Calls Tryz.prog 72 #[.slice A l.length cc, .func (Fn.func 73) #[] #[.pointer (some ⟨p, 0, none⟩)]] w (VMk (.bool (onceF g l 0)) w) := by
  obtain ⟨h1, h2, h3, h4⟩ := hf
  unfold maxLen at h2
  have hlen : l.length ≤ 9223372036854775807 := by omega
  have HP := Lib.hid hcall
  have H4 := Lib.hid h4
  clear hcall h4 h1 h2 h3
  have hsf := fun (w : World) (a : Addr) (m : Mode) (b : Nat) => run_store Tryz.prog w a (.float .f64 b) m rfl
  go_enter Tryz.func72, Tryz.ntmps72
  go_wp2
  go_loopw [9] (fun i wr => ∃ k : Nat, k ≤ l.length ∧ i = .int .i64 k ∧ onceF g (l.drop k) k = onceF g l 0 ∧ Below w.heap.size w wr) (fun i _ => l.length - (intOf i).toNat)
  case atStart => exact ⟨0, Nat.zero_le _, rfl, rfl, Below.refl _ _⟩
  case round =>
    obtain ⟨k, hk, rfl, hfi, hb⟩ := hrel
    by_cases hlt : k < l.length
    · obtain ⟨ad, rfl, hbl, hpart⟩ := H4.out k hlt
      have hpart2 := hpart.below hb (by rw [block_add]; exact hbl)
      have hmem := List.getElem_mem hlt
      rw [List.drop_eq_getElem_cons hlt, onceF] at hfi
      generalize l[k] = x at *
      obtain ⟨A, c, h0, h1, h2, hdeep⟩ := hpart2
      have q0 : wr.cell? (ad.add (k * 3)) = some (.string x.name) := h0
      have q1 : wr.cell? ⟨(ad.add (k * 3)).block, (ad.add (k * 3)).off + 1, none⟩ = some (.int .i64 x.need) := h1
      have q2 : wr.cell? ⟨(ad.add (k * 3)).block, (ad.add (k * 3)).off + 2, none⟩ = some (.slice A x.orgs.length c) := h2
      have hc := fun o => HP.out x hmem A c (wr.alloc o) (hb.trans ((alloc1 wr o).mono hb.size))
      clear hpart hmem
      have HC := Lib.hid hc
      rcases hd : (g x == (k : Int)) with _ | _
      all_goals
        rw [hd] at hfi
        have hne : (g x != (k : Int)) = !(g x == (k : Int)) := rfl
        rw [hd] at hne
        have HF := Lib.hid hfi
        clear hfi hd hc hdeep
        try simp only [Bool.not_true, Bool.not_false] at hne
        go_wp2_with (first | fail | (go_at_call 73; refine (HC.out _).mono ?_; rintro e w1 ⟨rfl, hb1⟩))
      · go_ret
        exact ⟨ret_bool (by have h := HF.out; simpa using h), (hb.trans ((alloc1 wr _).mono hb.size)).trans (hb1.mono (Nat.le_trans hb.size (alloc1 wr _).size))⟩
      · go_roundw
        case rel => exact ⟨k + 1, by omega, by go_num, by have h := HF.out; simpa using h, (hb.trans ((alloc1 wr _).mono hb.size)).trans (hb1.mono (Nat.le_trans hb.size (alloc1 wr _).size))⟩
        case measure => simp [intOf]; omega
    · obtain rfl : k = l.length := by omega
      rw [List.drop_length, onceF] at hfi
      have HF := Lib.hid hfi
      clear hfi
      go_wp2
      go_ret
      exact ⟨ret_bool HF.out, hb⟩
/-- the closure that tells where one of that name stands first -/
theorem clo1_Stage (p : Nat) (ct : Ctr) (FA : Option Addr) (fc : Nat) (SA : Option Addr) (sc : Nat) (MA : Option Addr) (mc : Nat) (x : Stg) (A : Option Addr) (c : Nat) (w : World)
    (h0 : w.cell? ⟨p, 0, none⟩ = some (.string ct.name)) (h1 : w.cell? ⟨p, 1, none⟩ = some (.slice FA ct.fs.length fc)) (h2 : w.cell? ⟨p, 2, none⟩ = some (.slice SA ct.ss.length sc)) (h3 : w.cell? ⟨p, 3, none⟩ = some (.slice MA ct.ms.length mc)) (h : CtK w ct FA fc SA sc MA mc) :
    Calls Tryz.prog 73 #[agSt x A c, .pointer (some ⟨p, 0, none⟩)] w (VMk (.int .i64 (placeN x.name (ct.ss.map fun x => x.name) 0)) w) := by
  have hp : p < w.heap.size := World.block_lt_of_cell? w _ h0
  have hne : ¬ w.heap.size = p := by omega
  have HC := Lib.hid (fun o => cStage_any ct FA fc SA sc MA mc x.name (w.alloc o) (h.below (alloc1 w o)))
  clear h
  generalize placeN x.name (ct.ss.map fun x => x.name) 0 = r at *
  go_enter Tryz.func73, Tryz.ntmps73
  go_wp2_with (go_at_call 15; refine (HC.out _).mono ?_; rintro e w1 ⟨rfl, hb1⟩)
  go_ret
  exact ⟨rfl, bel2 (alloc1 w _) hb1⟩
set_option maxHeartbeats 1000000 in
theorem once_Move (g : Mv → Int) (p : Nat) (A : Option Addr) (cc : Nat) (l : List Mv) (w : World) (hf : MvK w A cc l)
    (hcall : ∀ x ∈ l, ∀ (A : Option Addr) (c : Nat) (EA : Option Addr) (ec : Nat) W, Below w.heap.size w W → Calls Tryz.prog 77 #[agMv x A c EA ec, .pointer (some ⟨p, 0, none⟩)] W (VMk (.int .i64 (g x)) W)) :
    Calls Tryz.prog 76 #[.slice A l.length cc, .func (Fn.func 77) #[] #[.pointer (some ⟨p, 0, none⟩)]] w (VMk (.bool (onceF g l 0)) w) := by
  obtain ⟨h1, h2, h3, h4⟩ := hf
  unfold maxLen at h2
  have hlen : l.length ≤ 9223372036854775807 := by omega
  have HP := Lib.hid hcall
  have H4 := Lib.hid h4
  clear hcall h4 h1 h2 h3
  have hsf := fun (w : World) (a : Addr) (m : Mode) (b : Nat) => run_store Tryz.prog w a (.float .f64 b) m rfl
  go_enter Tryz.func76, Tryz.ntmps76
  go_wp2
  go_loopw [9] (fun i wr => ∃ k : Nat, k ≤ l.length ∧ i = .int .i64 k ∧ onceF g (l.drop k) k = onceF g l 0 ∧ Below w.heap.size w wr) (fun i _ => l.length - (intOf i).toNat)
  case atStart => exact ⟨0, Nat.zero_le _, rfl, rfl, Below.refl _ _⟩
  case round =>
    obtain ⟨k, hk, rfl, hfi, hb⟩ := hrel
    by_cases hlt : k < l.length
    · obtain ⟨ad, rfl, hbl, hpart⟩ := H4.out k hlt
      have hpart2 := hpart.below hb (by rw [block_add]; exact hbl)
      have hmem := List.getElem_mem hlt
      rw [List.drop_eq_getElem_cons hlt, onceF] at hfi
      generalize l[k] = x at *
      obtain ⟨A, c, EA, ec, h0, h1, h2, hk, he, h11, h12, hek⟩ := hpart2
      have q0 : wr.cell? (ad.add (k * 13)) = some (.string x.name) := h0
      have q1 : wr.cell? ⟨(ad.add (k * 13)).block, (ad.add (k * 13)).off + 1, none⟩ = some (.int .i64 x.frm) := h1
      have q2 : wr.cell? ⟨(ad.add (k * 13)).block, (ad.add (k * 13)).off + 2, none⟩ = some (.int .i64 x.too) := h2
      have q3 : wr.cell? ⟨(ad.add (k * 13)).block, (ad.add (k * 13)).off + 3, none⟩ = some (.int .i64 x.guard.op) := hk.1
      have q4 : wr.cell? ⟨(ad.add (k * 13)).block, (ad.add (k * 13)).off + 4, none⟩ = some (.slice A x.guard.kids.length c) := hk.2.1
      have q5 : wr.cell? ⟨(ad.add (k * 13)).block, (ad.add (k * 13)).off + 5, none⟩ = some (.string x.guard.name) := hk.2.2.1
      have q6 : wr.cell? ⟨(ad.add (k * 13)).block, (ad.add (k * 13)).off + 6, none⟩ = some (.int .i64 x.guard.val.k) := hk.2.2.2.1
      have q7 : wr.cell? ⟨(ad.add (k * 13)).block, (ad.add (k * 13)).off + 7, none⟩ = some (.int .i64 x.guard.val.i) := hk.2.2.2.2.1
      have q8 : wr.cell? ⟨(ad.add (k * 13)).block, (ad.add (k * 13)).off + 8, none⟩ = some (.bool x.guard.val.b) := hk.2.2.2.2.2.1
      have q9 : wr.cell? ⟨(ad.add (k * 13)).block, (ad.add (k * 13)).off + 9, none⟩ = some (.string x.guard.val.s) := hk.2.2.2.2.2.2.1
      have q10 : wr.cell? ⟨(ad.add (k * 13)).block, (ad.add (k * 13)).off + 10, none⟩ = some (.float .f64 x.guard.val.n) := hk.2.2.2.2.2.2.2
      have q11 : wr.cell? ⟨(ad.add (k * 13)).block, (ad.add (k * 13)).off + 11, none⟩ = some (.slice EA x.effs.length ec) := h11
      have q12 : wr.cell? ⟨(ad.add (k * 13)).block, (ad.add (k * 13)).off + 12, none⟩ = some (.int .i64 x.org) := h12
      have hc := fun o => HP.out x hmem A c EA ec (wr.alloc o) (hb.trans ((alloc1 wr o).mono hb.size))
      clear hpart hmem
      have HC := Lib.hid hc
      rcases hd : (g x == (k : Int)) with _ | _
      all_goals
        rw [hd] at hfi
        have hne : (g x != (k : Int)) = !(g x == (k : Int)) := rfl
        rw [hd] at hne
        have HF := Lib.hid hfi
        clear hfi hd hc he hek
        try simp only [Bool.not_true, Bool.not_false] at hne
        go_wp2_with (first | fail | (go_at_call 77; refine (HC.out _).mono ?_; rintro e w1 ⟨rfl, hb1⟩))
      · go_ret
        exact ⟨ret_bool (by have h := HF.out; simpa using h), (hb.trans ((alloc1 wr _).mono hb.size)).trans (hb1.mono (Nat.le_trans hb.size (alloc1 wr _).size))⟩
      · go_roundw
        case rel => exact ⟨k + 1, by omega, by go_num, by have h := HF.out; simpa using h, (hb.trans ((alloc1 wr _).mono hb.size)).trans (hb1.mono (Nat.le_trans hb.size (alloc1 wr _).size))⟩
        case measure => simp [intOf]; omega
    · obtain rfl : k = l.length := by omega
      rw [List.drop_length, onceF] at hfi
      have HF := Lib.hid hfi
      clear hfi
      go_wp2
      go_ret
      exact ⟨ret_bool HF.out, hb⟩
/-- the closure that tells where one of that name stands first -/
theorem clo1_Move (p : Nat) (ct : Ctr) (FA : Option Addr) (fc : Nat) (SA : Option Addr) (sc : Nat) (MA : Option Addr) (mc : Nat) (x : Mv) (A : Option Addr) (c : Nat) (EA : Option Addr) (ec : Nat) (w : World)
    (h0 : w.cell? ⟨p, 0, none⟩ = some (.string ct.name)) (h1 : w.cell? ⟨p, 1, none⟩ = some (.slice FA ct.fs.length fc)) (h2 : w.cell? ⟨p, 2, none⟩ = some (.slice SA ct.ss.length sc)) (h3 : w.cell? ⟨p, 3, none⟩ = some (.slice MA ct.ms.length mc)) (h : CtK w ct FA fc SA sc MA mc) :
    Calls Tryz.prog 77 #[agMv x A c EA ec, .pointer (some ⟨p, 0, none⟩)] w (VMk (.int .i64 (placeN x.name (ct.ms.map fun x => x.name) 0)) w) := by
  have hp : p < w.heap.size := World.block_lt_of_cell? w _ h0
  have hne : ¬ w.heap.size = p := by omega
  have HC := Lib.hid (fun o => cMove_any ct FA fc SA sc MA mc x.name (w.alloc o) (h.below (alloc1 w o)))
  clear h
  generalize placeN x.name (ct.ms.map fun x => x.name) 0 = r at *
  go_enter Tryz.func77, Tryz.ntmps77
  go_wp2_with (go_at_call 17; refine (HC.out _).mono ?_; rintro e w1 ⟨rfl, hb1⟩)
  go_ret
  exact ⟨rfl, bel2 (alloc1 w _) hb1⟩
end Go.Proofs.YthgdnpcfdgimlabGreat

/- Layer 6: all of a list are right. (Made by gen/gencfind.py.) -/
namespace Go.Proofs.YthgdnpcfdgimlabGreat
open Go.RowKit
set_option linter.unusedVariables false
set_option linter.unusedSimpArgs false
set_option maxRecDepth 20000

theorem first_all {α : Type} (P : α → Bool) : ∀ (l : List α) (i : Nat), decide (0 ≤ firstB (fun x => !P x) l i) = !(l.all P)
  | [], i => by simp [firstB]
  | x :: l, i => by
    rw [firstB, List.all_cons]
    cases h : P x with
    | false => simp
    | true =>
      rw [if_neg (by simp), Bool.true_and]
      exact first_all P l (i + 1)
theorem eclo_Field (p : Nat) (b : Bool) (x : Fld) (A : Option Addr) (c : Nat) (w : World) (h : w.cell? ⟨p, 0, none⟩ = some (.func (Fn.func 71) #[] #[]))
    (hcall : ∀ W, Below w.heap.size w W → Calls Tryz.prog 71 #[agFl x A c] W (VMk (.bool b) W)) :
    Calls Tryz.prog 119 #[agFl x A c, .pointer (some ⟨p, 0, none⟩)] w (VMk (.bool (!b)) w) := by
  have hp : p < w.heap.size := World.block_lt_of_cell? w _ h
  have hne : ¬ w.heap.size = p := by omega
  have HC := Lib.hid hcall
  have hsf := fun (w : World) (a : Addr) (m : Mode) (b : Nat) => run_store Tryz.prog w a (.float .f64 b) m rfl
  clear hcall
  cases b
  all_goals
    go_enter Tryz.func119, Tryz.ntmps119
    go_wp2_with (go_at_call 71; refine (HC.out _ (alloc1 w _)).mono ?_; rintro e w1 ⟨rfl, hb1⟩)
    go_ret
    exact ⟨rfl, bel2 (alloc1 w _) hb1⟩
set_option maxHeartbeats 1000000 in
/-- IndexFunc over a row of Fld, by the closure quaestor/contract.each[quaestor/api.Field] 1 -/
theorem idx_eField (P : Fld → Bool) (p : Nat) (A : Option Addr) (cc : Nat) (l : List Fld) (w : World) (hf : FldK w A cc l)
    (hcall : ∀ x ∈ l, ∀ (A : Option Addr) (c : Nat) W, Below w.heap.size w W → Ss W (.slice A x.en.length c) x.en → Calls Tryz.prog 119 #[agFl x A c, .pointer (some ⟨p, 0, none⟩)] W (VMk (.bool (P x)) W)) :
    Calls Tryz.prog 39 #[.slice A l.length cc, .func (Fn.func 119) #[] #[.pointer (some ⟨p, 0, none⟩)]] w (VMk (.int .i64 (firstB P l 0)) w) := by
  obtain ⟨h1, h2, h3, h4⟩ := hf
  unfold maxLen at h2
  have hlen : l.length ≤ 9223372036854775807 := by omega
  have HP := Lib.hid hcall
  have H4 := Lib.hid h4
  clear hcall h4 h1 h2 h3
  have hsf := fun (w : World) (a : Addr) (m : Mode) (b : Nat) => run_store Tryz.prog w a (.float .f64 b) m rfl
  go_enter Tryz.func39, Tryz.ntmps39
  go_wp2
  go_loopw [8] (fun i wr => ∃ k : Nat, k ≤ l.length ∧ i = .int .i64 k ∧ firstB P (l.drop k) k = firstB P l 0 ∧ Below w.heap.size w wr) (fun i _ => l.length - (intOf i).toNat)
  case atStart => exact ⟨0, Nat.zero_le _, rfl, rfl, Below.refl _ _⟩
  case round =>
    obtain ⟨k, hk, rfl, hfi, hb⟩ := hrel
    by_cases hlt : k < l.length
    · obtain ⟨ad, rfl, hbl, hpart⟩ := H4.out k hlt
      have hpart2 := hpart.below hb (by rw [block_add]; exact hbl)
      have hmem := List.getElem_mem hlt
      rw [List.drop_eq_getElem_cons hlt, firstB] at hfi
      generalize l[k] = x at *
      obtain ⟨A, c, hq, hdeep⟩ := hpart2
      have q0 : wr.cell? (ad.add (k * 8)) = some (.string x.f.name) := hq.1
      have q1 : wr.cell? ⟨(ad.add (k * 8)).block, (ad.add (k * 8)).off + 1, none⟩ = some (.int .i64 x.f.kind) := hq.2.1
      have q2 : wr.cell? ⟨(ad.add (k * 8)).block, (ad.add (k * 8)).off + 2, none⟩ = some (.slice A x.en.length c) := hq.2.2.1
      have q3 : wr.cell? ⟨(ad.add (k * 8)).block, (ad.add (k * 8)).off + 3, none⟩ = some (.int .i64 x.y.k) := hq.2.2.2.1
      have q4 : wr.cell? ⟨(ad.add (k * 8)).block, (ad.add (k * 8)).off + 4, none⟩ = some (.int .i64 x.y.i) := hq.2.2.2.2.1
      have q5 : wr.cell? ⟨(ad.add (k * 8)).block, (ad.add (k * 8)).off + 5, none⟩ = some (.bool x.y.b) := hq.2.2.2.2.2.1
      have q6 : wr.cell? ⟨(ad.add (k * 8)).block, (ad.add (k * 8)).off + 6, none⟩ = some (.string x.y.s) := hq.2.2.2.2.2.2.1
      have q7 : wr.cell? ⟨(ad.add (k * 8)).block, (ad.add (k * 8)).off + 7, none⟩ = some (.float .f64 x.y.n) := hq.2.2.2.2.2.2.2
      have hc := HP.out x hmem A c wr hb hdeep
      clear hpart hmem
      rcases hd : P x with _ | _
      all_goals
        rw [hd] at hc hfi
        have HC := Lib.hid hc
        have HF := Lib.hid hfi
        clear hc hfi hd hq hdeep
        go_wp2_with (go_at_call 119; refine HC.out.mono ?_; rintro e w1 ⟨rfl, hb1⟩)
      · go_roundw
        case rel => exact ⟨k + 1, by omega, by go_num, by have h := HF.out; rwa [if_neg (by decide)] at h, hb.trans (hb1.mono hb.size)⟩
        case measure => simp [intOf]; omega
      · go_ret
        exact ⟨ret_int (by have h := HF.out; simpa using h), hb.trans (hb1.mono hb.size)⟩
    · obtain rfl : k = l.length := by omega
      rw [List.drop_length, firstB] at hfi
      have HF := Lib.hid hfi
      clear hfi
      go_wp2
      go_ret
      exact ⟨ret_int HF.out, hb⟩
theorem cont_Field (p : Nat) (A : Option Addr) (n cc : Nat) (r : Int) (w : World) (hi : Calls Tryz.prog 39 #[.slice A n cc, .func (Fn.func 119) #[] #[.pointer (some ⟨p, 0, none⟩)]] w (VMk (.int .i64 r) w)) :
    Calls Tryz.prog 118 #[.slice A n cc, .func (Fn.func 119) #[] #[.pointer (some ⟨p, 0, none⟩)]] w (VMk (.bool (decide (0 ≤ r))) w) := by
  have HI := Lib.hid hi
  clear hi
  by_cases h0 : 0 ≤ r
  · have hd : decide (0 ≤ r) = true := decide_eq_true h0
    rw [hd]
    clear hd
    go_enter Tryz.func118, Tryz.ntmps118
    go_wp2_with (go_at_call 39; refine HI.out.mono ?_; rintro e w1 ⟨rfl, hb1⟩)
    go_ret
    exact ⟨ret_bool (by first | (simp; done) | (simp; omega)), hb1⟩
  · have hd : decide (0 ≤ r) = false := decide_eq_false h0
    rw [hd]
    clear hd
    go_enter Tryz.func118, Tryz.ntmps118
    go_wp2_with (go_at_call 39; refine HI.out.mono ?_; rintro e w1 ⟨rfl, hb1⟩)
    go_ret
    exact ⟨ret_bool (by first | (simp; done) | (simp; omega)), hb1⟩
set_option maxHeartbeats 1000000 in
theorem each_Field (P : Fld → Bool) (A : Option Addr) (cc : Nat) (l : List Fld) (w : World) (hf : FldK w A cc l)
    (hcall : ∀ x ∈ l, ∀ (A : Option Addr) (c : Nat) W, Below w.heap.size w W → Ss W (.slice A x.en.length c) x.en → Calls Tryz.prog 71 #[agFl x A c] W (VMk (.bool (P x)) W)) :
    Calls Tryz.prog 70 #[.slice A l.length cc, .func (Fn.func 71) #[] #[]] w (VMk (.bool (l.all P)) w) := by
  have hcell : (w.alloc (.cells #[.func (Fn.func 71) #[] #[]] 74)).cell? ⟨w.heap.size, 0, none⟩ = some (.func (Fn.func 71) #[] #[]) := (cell_of_row _ _ 0 _ _ (0, 0) (heap_alloc_new w _)).trans rfl
  have hb0 := alloc1 w (.cells #[.func (Fn.func 71) #[] #[]] 74)
  have hi := idx_eField (fun x => !P x) w.heap.size A cc l _ (FldK.below hf hb0) (fun x hx A c W hW hdeep => eclo_Field w.heap.size (P x) x A c W (keepc hW (World.block_lt_of_cell? _ _ hcell) hcell) (fun W2 hW2 => hcall x hx A c W2 (bel2 (bel2 hb0 hW) hW2) (Rd.below hdeep hW2 (Nat.le_refl _))))
  have hi := cont_Field _ _ _ _ _ _ hi
  rw [first_all P l 0] at hi
  generalize l.all P = b at *
  have HI := Lib.hid hi
  have HB := Lib.hid hb0
  clear hi hb0 hcell hcall hf
  have hsf := fun (w : World) (a : Addr) (m : Mode) (b : Nat) => run_store Tryz.prog w a (.float .f64 b) m rfl
  cases b
  all_goals
    go_enter Tryz.func70, Tryz.ntmps70
    go_wp2_with (go_at_call 118; refine HI.out.mono ?_; rintro e w1 ⟨rfl, hb1⟩)
    go_ret
    exact ⟨rfl, bel2 HB.out hb1⟩
theorem eclo_Stage (p : Nat) (b : Bool) (x : Stg) (A : Option Addr) (c : Nat) (w : World) (h : w.cell? ⟨p, 0, none⟩ = some (.func (Fn.func 75) #[] #[]))
    (hcall : ∀ W, Below w.heap.size w W → Calls Tryz.prog 75 #[agSt x A c] W (VMk (.bool b) W)) :
    Calls Tryz.prog 123 #[agSt x A c, .pointer (some ⟨p, 0, none⟩)] w (VMk (.bool (!b)) w) := by
  have hp : p < w.heap.size := World.block_lt_of_cell? w _ h
  have hne : ¬ w.heap.size = p := by omega
  have HC := Lib.hid hcall
  have hsf := fun (w : World) (a : Addr) (m : Mode) (b : Nat) => run_store Tryz.prog w a (.float .f64 b) m rfl
  clear hcall
  cases b
  all_goals
    go_enter Tryz.func123, Tryz.ntmps123
    go_wp2_with (go_at_call 75; refine (HC.out _ (alloc1 w _)).mono ?_; rintro e w1 ⟨rfl, hb1⟩)
    go_ret
    exact ⟨rfl, bel2 (alloc1 w _) hb1⟩
set_option maxHeartbeats 1000000 in
/-- IndexFunc over a row of Stg, by the closure quaestor/contract.each[quaestor/api.Stage] 1 -/
theorem idx_eStage (P : Stg → Bool) (p : Nat) (A : Option Addr) (cc : Nat) (l : List Stg) (w : World) (hf : StgK w A cc l)
    (hcall : ∀ x ∈ l, ∀ (A : Option Addr) (c : Nat) W, Below w.heap.size w W → Is W (.slice A x.orgs.length c) x.orgs → Calls Tryz.prog 123 #[agSt x A c, .pointer (some ⟨p, 0, none⟩)] W (VMk (.bool (P x)) W)) :
    Calls Tryz.prog 41 #[.slice A l.length cc, .func (Fn.func 123) #[] #[.pointer (some ⟨p, 0, none⟩)]] w (VMk (.int .i64 (firstB P l 0)) w) := by
  obtain ⟨h1, h2, h3, h4⟩ := hf
  unfold maxLen at h2
  have hlen : l.length ≤ 9223372036854775807 := by omega
  have HP := Lib.hid hcall
  have H4 := Lib.hid h4
  clear hcall h4 h1 h2 h3
  have hsf := fun (w : World) (a : Addr) (m : Mode) (b : Nat) => run_store Tryz.prog w a (.float .f64 b) m rfl
  go_enter Tryz.func41, Tryz.ntmps41
  go_wp2
  go_loopw [8] (fun i wr => ∃ k : Nat, k ≤ l.length ∧ i = .int .i64 k ∧ firstB P (l.drop k) k = firstB P l 0 ∧ Below w.heap.size w wr) (fun i _ => l.length - (intOf i).toNat)
  case atStart => exact ⟨0, Nat.zero_le _, rfl, rfl, Below.refl _ _⟩
  case round =>
    obtain ⟨k, hk, rfl, hfi, hb⟩ := hrel
    by_cases hlt : k < l.length
    · obtain ⟨ad, rfl, hbl, hpart⟩ := H4.out k hlt
      have hpart2 := hpart.below hb (by rw [block_add]; exact hbl)
      have hmem := List.getElem_mem hlt
      rw [List.drop_eq_getElem_cons hlt, firstB] at hfi
      generalize l[k] = x at *
      obtain ⟨A, c, h0, h1, h2, hdeep⟩ := hpart2
      have q0 : wr.cell? (ad.add (k * 3)) = some (.string x.name) := h0
      have q1 : wr.cell? ⟨(ad.add (k * 3)).block, (ad.add (k * 3)).off + 1, none⟩ = some (.int .i64 x.need) := h1
      have q2 : wr.cell? ⟨(ad.add (k * 3)).block, (ad.add (k * 3)).off + 2, none⟩ = some (.slice A x.orgs.length c) := h2
      have hc := HP.out x hmem A c wr hb hdeep
      clear hpart hmem
      rcases hd : P x with _ | _
      all_goals
        rw [hd] at hc hfi
        have HC := Lib.hid hc
        have HF := Lib.hid hfi
        clear hc hfi hd hdeep
        go_wp2_with (go_at_call 123; refine HC.out.mono ?_; rintro e w1 ⟨rfl, hb1⟩)
      · go_roundw
        case rel => exact ⟨k + 1, by omega, by go_num, by have h := HF.out; rwa [if_neg (by decide)] at h, hb.trans (hb1.mono hb.size)⟩
        case measure => simp [intOf]; omega
      · go_ret
        exact ⟨ret_int (by have h := HF.out; simpa using h), hb.trans (hb1.mono hb.size)⟩
    · obtain rfl : k = l.length := by omega
      rw [List.drop_length, firstB] at hfi
      have HF := Lib.hid hfi
      clear hfi
      go_wp2
      go_ret
      exact ⟨ret_int HF.out, hb⟩
theorem cont_Stage (p : Nat) (A : Option Addr) (n cc : Nat) (r : Int) (w : World) (hi : Calls Tryz.prog 41 #[.slice A n cc, .func (Fn.func 123) #[] #[.pointer (some ⟨p, 0, none⟩)]] w (VMk (.int .i64 r) w)) :
    Calls Tryz.prog 122 #[.slice A n cc, .func (Fn.func 123) #[] #[.pointer (some ⟨p, 0, none⟩)]] w (VMk (.bool (decide (0 ≤ r))) w) := by
  have HI := Lib.hid hi
  clear hi
  by_cases h0 : 0 ≤ r
  · have hd : decide (0 ≤ r) = true := decide_eq_true h0
    rw [hd]
    clear hd
    go_enter Tryz.func122, Tryz.ntmps122
    go_wp2_with (go_at_call 41; refine HI.out.mono ?_; rintro e w1 ⟨rfl, hb1⟩)
    go_ret
    exact ⟨ret_bool (by first | (simp; done) | (simp; omega)), hb1⟩
  · have hd : decide (0 ≤ r) = false := decide_eq_false h0
    rw [hd]
    clear hd
    go_enter Tryz.func122, Tryz.ntmps122
    go_wp2_with (go_at_call 41; refine HI.out.mono ?_; rintro e w1 ⟨rfl, hb1⟩)
    go_ret
    exact ⟨ret_bool (by first | (simp; done) | (simp; omega)), hb1⟩
set_option maxHeartbeats 1000000 in
theorem each_Stage (P : Stg → Bool) (A : Option Addr) (cc : Nat) (l : List Stg) (w : World) (hf : StgK w A cc l)
    (hcall : ∀ x ∈ l, ∀ (A : Option Addr) (c : Nat) W, Below w.heap.size w W → Is W (.slice A x.orgs.length c) x.orgs → Calls Tryz.prog 75 #[agSt x A c] W (VMk (.bool (P x)) W)) :
    Calls Tryz.prog 74 #[.slice A l.length cc, .func (Fn.func 75) #[] #[]] w (VMk (.bool (l.all P)) w) := by
  have hcell : (w.alloc (.cells #[.func (Fn.func 75) #[] #[]] 76)).cell? ⟨w.heap.size, 0, none⟩ = some (.func (Fn.func 75) #[] #[]) := (cell_of_row _ _ 0 _ _ (0, 0) (heap_alloc_new w _)).trans rfl
  have hb0 := alloc1 w (.cells #[.func (Fn.func 75) #[] #[]] 76)
  have hi := idx_eStage (fun x => !P x) w.heap.size A cc l _ (StgK.below hf hb0) (fun x hx A c W hW hdeep => eclo_Stage w.heap.size (P x) x A c W (keepc hW (World.block_lt_of_cell? _ _ hcell) hcell) (fun W2 hW2 => hcall x hx A c W2 (bel2 (bel2 hb0 hW) hW2) (Rd.below hdeep hW2 (Nat.le_refl _))))
  have hi := cont_Stage _ _ _ _ _ _ hi
  rw [first_all P l 0] at hi
  generalize l.all P = b at *
  have HI := Lib.hid hi
  have HB := Lib.hid hb0
  clear hi hb0 hcell hcall hf
  have hsf := fun (w : World) (a : Addr) (m : Mode) (b : Nat) => run_store Tryz.prog w a (.float .f64 b) m rfl
  cases b
  all_goals
    go_enter Tryz.func74, Tryz.ntmps74
    go_wp2_with (go_at_call 122; refine HI.out.mono ?_; rintro e w1 ⟨rfl, hb1⟩)
    go_ret
    exact ⟨rfl, bel2 HB.out hb1⟩
theorem eclo_Move (pc : Nat) (p : Nat) (b : Bool) (x : Mv) (A : Option Addr) (c : Nat) (EA : Option Addr) (ec : Nat) (w : World) (h : w.cell? ⟨p, 0, none⟩ = some (.func (Fn.func 79) #[] #[.pointer (some ⟨pc, 0, none⟩)]))
    (hcall : ∀ W, Below w.heap.size w W → Calls Tryz.prog 79 #[agMv x A c EA ec, .pointer (some ⟨pc, 0, none⟩)] W (VMk (.bool b) W)) :
    Calls Tryz.prog 126 #[agMv x A c EA ec, .pointer (some ⟨p, 0, none⟩)] w (VMk (.bool (!b)) w) := by
  have hp : p < w.heap.size := World.block_lt_of_cell? w _ h
  have hne : ¬ w.heap.size = p := by omega
  have HC := Lib.hid hcall
  have hsf := fun (w : World) (a : Addr) (m : Mode) (b : Nat) => run_store Tryz.prog w a (.float .f64 b) m rfl
  clear hcall
  cases b
  all_goals
    go_enter Tryz.func126, Tryz.ntmps126
    go_wp2_with (go_at_call 79; refine (HC.out _ (alloc1 w _)).mono ?_; rintro e w1 ⟨rfl, hb1⟩)
    go_ret
    exact ⟨rfl, bel2 (alloc1 w _) hb1⟩
set_option maxHeartbeats 1000000 in
/-- IndexFunc over a row of Mv, by the closure quaestor/contract.each[quaestor/api.Move] 1 -/
theorem idx_eMove (P : Mv → Bool) (p : Nat) (A : Option Addr) (cc : Nat) (l : List Mv) (w : World) (hf : MvK w A cc l)
    (hcall : ∀ x ∈ l, ∀ (A : Option Addr) (c : Nat) (EA : Option Addr) (ec : Nat) W, Below w.heap.size w W → (ExE W A c x.guard ∧ EffK W EA ec x.effs) → Calls Tryz.prog 126 #[agMv x A c EA ec, .pointer (some ⟨p, 0, none⟩)] W (VMk (.bool (P x)) W)) :
    Calls Tryz.prog 43 #[.slice A l.length cc, .func (Fn.func 126) #[] #[.pointer (some ⟨p, 0, none⟩)]] w (VMk (.int .i64 (firstB P l 0)) w) := by
  obtain ⟨h1, h2, h3, h4⟩ := hf
  unfold maxLen at h2
  have hlen : l.length ≤ 9223372036854775807 := by omega
  have HP := Lib.hid hcall
  have H4 := Lib.hid h4
  clear hcall h4 h1 h2 h3
  have hsf := fun (w : World) (a : Addr) (m : Mode) (b : Nat) => run_store Tryz.prog w a (.float .f64 b) m rfl
  go_enter Tryz.func43, Tryz.ntmps43
  go_wp2
  go_loopw [8] (fun i wr => ∃ k : Nat, k ≤ l.length ∧ i = .int .i64 k ∧ firstB P (l.drop k) k = firstB P l 0 ∧ Below w.heap.size w wr) (fun i _ => l.length - (intOf i).toNat)
  case atStart => exact ⟨0, Nat.zero_le _, rfl, rfl, Below.refl _ _⟩
  case round =>
    obtain ⟨k, hk, rfl, hfi, hb⟩ := hrel
    by_cases hlt : k < l.length
    · obtain ⟨ad, rfl, hbl, hpart⟩ := H4.out k hlt
      have hpart2 := hpart.below hb (by rw [block_add]; exact hbl)
      have hmem := List.getElem_mem hlt
      rw [List.drop_eq_getElem_cons hlt, firstB] at hfi
      generalize l[k] = x at *
      obtain ⟨A, c, EA, ec, h0, h1, h2, hk, he, h11, h12, hek⟩ := hpart2
      have q0 : wr.cell? (ad.add (k * 13)) = some (.string x.name) := h0
      have q1 : wr.cell? ⟨(ad.add (k * 13)).block, (ad.add (k * 13)).off + 1, none⟩ = some (.int .i64 x.frm) := h1
      have q2 : wr.cell? ⟨(ad.add (k * 13)).block, (ad.add (k * 13)).off + 2, none⟩ = some (.int .i64 x.too) := h2
      have q3 : wr.cell? ⟨(ad.add (k * 13)).block, (ad.add (k * 13)).off + 3, none⟩ = some (.int .i64 x.guard.op) := hk.1
      have q4 : wr.cell? ⟨(ad.add (k * 13)).block, (ad.add (k * 13)).off + 4, none⟩ = some (.slice A x.guard.kids.length c) := hk.2.1
      have q5 : wr.cell? ⟨(ad.add (k * 13)).block, (ad.add (k * 13)).off + 5, none⟩ = some (.string x.guard.name) := hk.2.2.1
      have q6 : wr.cell? ⟨(ad.add (k * 13)).block, (ad.add (k * 13)).off + 6, none⟩ = some (.int .i64 x.guard.val.k) := hk.2.2.2.1
      have q7 : wr.cell? ⟨(ad.add (k * 13)).block, (ad.add (k * 13)).off + 7, none⟩ = some (.int .i64 x.guard.val.i) := hk.2.2.2.2.1
      have q8 : wr.cell? ⟨(ad.add (k * 13)).block, (ad.add (k * 13)).off + 8, none⟩ = some (.bool x.guard.val.b) := hk.2.2.2.2.2.1
      have q9 : wr.cell? ⟨(ad.add (k * 13)).block, (ad.add (k * 13)).off + 9, none⟩ = some (.string x.guard.val.s) := hk.2.2.2.2.2.2.1
      have q10 : wr.cell? ⟨(ad.add (k * 13)).block, (ad.add (k * 13)).off + 10, none⟩ = some (.float .f64 x.guard.val.n) := hk.2.2.2.2.2.2.2
      have q11 : wr.cell? ⟨(ad.add (k * 13)).block, (ad.add (k * 13)).off + 11, none⟩ = some (.slice EA x.effs.length ec) := h11
      have q12 : wr.cell? ⟨(ad.add (k * 13)).block, (ad.add (k * 13)).off + 12, none⟩ = some (.int .i64 x.org) := h12
      have hc := HP.out x hmem A c EA ec wr hb ⟨he, hek⟩
      clear hpart hmem
      rcases hd : P x with _ | _
      all_goals
        rw [hd] at hc hfi
        have HC := Lib.hid hc
        have HF := Lib.hid hfi
        clear hc hfi hd he hek
        go_wp2_with (go_at_call 126; refine HC.out.mono ?_; rintro e w1 ⟨rfl, hb1⟩)
      · go_roundw
        case rel => exact ⟨k + 1, by omega, by go_num, by have h := HF.out; rwa [if_neg (by decide)] at h, hb.trans (hb1.mono hb.size)⟩
        case measure => simp [intOf]; omega
      · go_ret
        exact ⟨ret_int (by have h := HF.out; simpa using h), hb.trans (hb1.mono hb.size)⟩
    · obtain rfl : k = l.length := by omega
      rw [List.drop_length, firstB] at hfi
      have HF := Lib.hid hfi
      clear hfi
      go_wp2
      go_ret
      exact ⟨ret_int HF.out, hb⟩
theorem cont_Move (p : Nat) (A : Option Addr) (n cc : Nat) (r : Int) (w : World) (hi : Calls Tryz.prog 43 #[.slice A n cc, .func (Fn.func 126) #[] #[.pointer (some ⟨p, 0, none⟩)]] w (VMk (.int .i64 r) w)) :
    Calls Tryz.prog 125 #[.slice A n cc, .func (Fn.func 126) #[] #[.pointer (some ⟨p, 0, none⟩)]] w (VMk (.bool (decide (0 ≤ r))) w) := by
  have HI := Lib.hid hi
  clear hi
  by_cases h0 : 0 ≤ r
  · have hd : decide (0 ≤ r) = true := decide_eq_true h0
    rw [hd]
    clear hd
    go_enter Tryz.func125, Tryz.ntmps125
    go_wp2_with (go_at_call 43; refine HI.out.mono ?_; rintro e w1 ⟨rfl, hb1⟩)
    go_ret
    exact ⟨ret_bool (by first | (simp; done) | (simp; omega)), hb1⟩
  · have hd : decide (0 ≤ r) = false := decide_eq_false h0
    rw [hd]
    clear hd
    go_enter Tryz.func125, Tryz.ntmps125
    go_wp2_with (go_at_call 43; refine HI.out.mono ?_; rintro e w1 ⟨rfl, hb1⟩)
    go_ret
    exact ⟨ret_bool (by first | (simp; done) | (simp; omega)), hb1⟩
set_option maxHeartbeats 1000000 in
theorem each_Move (pc : Nat) (P : Mv → Bool) (A : Option Addr) (cc : Nat) (l : List Mv) (w : World) (hf : MvK w A cc l)
    (hcall : ∀ x ∈ l, ∀ (A : Option Addr) (c : Nat) (EA : Option Addr) (ec : Nat) W, Below w.heap.size w W → (ExE W A c x.guard ∧ EffK W EA ec x.effs) → Calls Tryz.prog 79 #[agMv x A c EA ec, .pointer (some ⟨pc, 0, none⟩)] W (VMk (.bool (P x)) W)) :
    Calls Tryz.prog 78 #[.slice A l.length cc, .func (Fn.func 79) #[] #[.pointer (some ⟨pc, 0, none⟩)]] w (VMk (.bool (l.all P)) w) := by
  have hcell : (w.alloc (.cells #[.func (Fn.func 79) #[] #[.pointer (some ⟨pc, 0, none⟩)]] 78)).cell? ⟨w.heap.size, 0, none⟩ = some (.func (Fn.func 79) #[] #[.pointer (some ⟨pc, 0, none⟩)]) := (cell_of_row _ _ 0 _ _ (0, 0) (heap_alloc_new w _)).trans rfl
  have hb0 := alloc1 w (.cells #[.func (Fn.func 79) #[] #[.pointer (some ⟨pc, 0, none⟩)]] 78)
  have hi := idx_eMove (fun x => !P x) w.heap.size A cc l _ (MvK.below hf hb0) (fun x hx A c EA ec W hW hdeep => eclo_Move pc w.heap.size (P x) x A c EA ec W (keepc hW (World.block_lt_of_cell? _ _ hcell) hcell) (fun W2 hW2 => hcall x hx A c EA ec W2 (bel2 (bel2 hb0 hW) hW2) ⟨hdeep.1.below hW2, EffK.below hdeep.2 hW2⟩))
  have hi := cont_Move _ _ _ _ _ _ hi
  rw [first_all P l 0] at hi
  generalize l.all P = b at *
  have HI := Lib.hid hi
  have HB := Lib.hid hb0
  clear hi hb0 hcell hcall hf
  have hsf := fun (w : World) (a : Addr) (m : Mode) (b : Nat) => run_store Tryz.prog w a (.float .f64 b) m rfl
  cases b
  all_goals
    go_enter Tryz.func78, Tryz.ntmps78
    go_wp2_with (go_at_call 125; refine HI.out.mono ?_; rintro e w1 ⟨rfl, hb1⟩)
    go_ret
    exact ⟨rfl, bel2 HB.out hb1⟩
end Go.Proofs.YthgdnpcfdgimlabGreat

/- Layer 6: a move's effects: where one on a field stands, that each stands once, that all are right. (Made by gen/gencfind.py.) -/
namespace Go.Proofs.YthgdnpcfdgimlabGreat
open Go.RowKit
set_option linter.unusedVariables false
set_option linter.unusedSimpArgs false
set_option maxRecDepth 20000

abbrev agEf (x : Eff) (A : Option Addr) (c : Nat) : Value := .agg #[.string x.field, .int .i64 x.e.op, .slice A x.e.kids.length c, .string x.e.name, .int .i64 x.e.val.k, .int .i64 x.e.val.i, .bool x.e.val.b, .string x.e.val.s, .float .f64 x.e.val.n]
set_option maxHeartbeats 1000000 in
/-- IndexFunc over a row of Eff, by the closure quaestor/contract.effectOn 1 -/
theorem idx_Effect (P : Eff → Bool) (p : Nat) (A : Option Addr) (cc : Nat) (l : List Eff) (w : World) (hf : EffK w A cc l)
    (hcall : ∀ x ∈ l, ∀ (A : Option Addr) (c : Nat) W, Below w.heap.size w W → ExE W A c x.e → Calls Tryz.prog 210 #[agEf x A c, .pointer (some ⟨p, 0, none⟩)] W (VMk (.bool (P x)) W)) :
    Calls Tryz.prog 209 #[.slice A l.length cc, .func (Fn.func 210) #[] #[.pointer (some ⟨p, 0, none⟩)]] w (VMk (.int .i64 (firstB P l 0)) w) := by
  obtain ⟨h1, h2, h3, h4⟩ := hf
  unfold maxLen at h2
  have hlen : l.length ≤ 9223372036854775807 := by omega
  have HP := Lib.hid hcall
  have H4 := Lib.hid h4
  clear hcall h4 h1 h2 h3
  have hsf := fun (w : World) (a : Addr) (m : Mode) (b : Nat) => run_store Tryz.prog w a (.float .f64 b) m rfl
  go_enter Tryz.func209, Tryz.ntmps209
  go_wp2
  go_loopw [8] (fun i wr => ∃ k : Nat, k ≤ l.length ∧ i = .int .i64 k ∧ firstB P (l.drop k) k = firstB P l 0 ∧ Below w.heap.size w wr) (fun i _ => l.length - (intOf i).toNat)
  case atStart => exact ⟨0, Nat.zero_le _, rfl, rfl, Below.refl _ _⟩
  case round =>
    obtain ⟨k, hk, rfl, hfi, hb⟩ := hrel
    by_cases hlt : k < l.length
    · obtain ⟨ad, rfl, hbl, hpart⟩ := H4.out k hlt
      have hpart2 := hpart.below hb (by rw [block_add]; exact hbl)
      have hmem := List.getElem_mem hlt
      rw [List.drop_eq_getElem_cons hlt, firstB] at hfi
      generalize l[k] = x at *
      obtain ⟨A, c, h0, hk, hdeep⟩ := hpart2
      have q0 : wr.cell? (ad.add (k * 9)) = some (.string x.field) := h0
      have q1 : wr.cell? ⟨(ad.add (k * 9)).block, (ad.add (k * 9)).off + 1, none⟩ = some (.int .i64 x.e.op) := hk.1
      have q2 : wr.cell? ⟨(ad.add (k * 9)).block, (ad.add (k * 9)).off + 2, none⟩ = some (.slice A x.e.kids.length c) := hk.2.1
      have q3 : wr.cell? ⟨(ad.add (k * 9)).block, (ad.add (k * 9)).off + 3, none⟩ = some (.string x.e.name) := hk.2.2.1
      have q4 : wr.cell? ⟨(ad.add (k * 9)).block, (ad.add (k * 9)).off + 4, none⟩ = some (.int .i64 x.e.val.k) := hk.2.2.2.1
      have q5 : wr.cell? ⟨(ad.add (k * 9)).block, (ad.add (k * 9)).off + 5, none⟩ = some (.int .i64 x.e.val.i) := hk.2.2.2.2.1
      have q6 : wr.cell? ⟨(ad.add (k * 9)).block, (ad.add (k * 9)).off + 6, none⟩ = some (.bool x.e.val.b) := hk.2.2.2.2.2.1
      have q7 : wr.cell? ⟨(ad.add (k * 9)).block, (ad.add (k * 9)).off + 7, none⟩ = some (.string x.e.val.s) := hk.2.2.2.2.2.2.1
      have q8 : wr.cell? ⟨(ad.add (k * 9)).block, (ad.add (k * 9)).off + 8, none⟩ = some (.float .f64 x.e.val.n) := hk.2.2.2.2.2.2.2
      have hc := HP.out x hmem A c wr hb hdeep
      clear hpart hmem
      rcases hd : P x with _ | _
      all_goals
        rw [hd] at hc hfi
        have HC := Lib.hid hc
        have HF := Lib.hid hfi
        clear hc hfi hd hdeep
        go_wp2_with (go_at_call 210; refine HC.out.mono ?_; rintro e w1 ⟨rfl, hb1⟩)
      · go_roundw
        case rel => exact ⟨k + 1, by omega, by go_num, by have h := HF.out; rwa [if_neg (by decide)] at h, hb.trans (hb1.mono hb.size)⟩
        case measure => simp [intOf]; omega
      · go_ret
        exact ⟨ret_int (by have h := HF.out; simpa using h), hb.trans (hb1.mono hb.size)⟩
    · obtain rfl : k = l.length := by omega
      rw [List.drop_length, firstB] at hfi
      have HF := Lib.hid hfi
      clear hfi
      go_wp2
      go_ret
      exact ⟨ret_int HF.out, hb⟩
set_option maxHeartbeats 1000000 in
theorem once_Effect (g : Eff → Int) (p : Nat) (A : Option Addr) (cc : Nat) (l : List Eff) (w : World) (hf : EffK w A cc l)
    (hcall : ∀ x ∈ l, ∀ (A : Option Addr) (c : Nat) W, Below w.heap.size w W → Calls Tryz.prog 173 #[agEf x A c, .pointer (some ⟨p, 0, none⟩)] W (VMk (.int .i64 (g x)) W)) :
    Calls Tryz.prog 172 #[.slice A l.length cc, .func (Fn.func 173) #[] #[.pointer (some ⟨p, 0, none⟩)]] w (VMk (.bool (onceF g l 0)) w) := by
  obtain ⟨h1, h2, h3, h4⟩ := hf
  unfold maxLen at h2
  have hlen : l.length ≤ 9223372036854775807 := by omega
  have HP := Lib.hid hcall
  have H4 := Lib.hid h4
  clear hcall h4 h1 h2 h3
  have hsf := fun (w : World) (a : Addr) (m : Mode) (b : Nat) => run_store Tryz.prog w a (.float .f64 b) m rfl
  go_enter Tryz.func172, Tryz.ntmps172
  go_wp2
  go_loopw [9] (fun i wr => ∃ k : Nat, k ≤ l.length ∧ i = .int .i64 k ∧ onceF g (l.drop k) k = onceF g l 0 ∧ Below w.heap.size w wr) (fun i _ => l.length - (intOf i).toNat)
  case atStart => exact ⟨0, Nat.zero_le _, rfl, rfl, Below.refl _ _⟩
  case round =>
    obtain ⟨k, hk, rfl, hfi, hb⟩ := hrel
    by_cases hlt : k < l.length
    · obtain ⟨ad, rfl, hbl, hpart⟩ := H4.out k hlt
      have hpart2 := hpart.below hb (by rw [block_add]; exact hbl)
      have hmem := List.getElem_mem hlt
      rw [List.drop_eq_getElem_cons hlt, onceF] at hfi
      generalize l[k] = x at *
      obtain ⟨A, c, h0, hk, hdeep⟩ := hpart2
      have q0 : wr.cell? (ad.add (k * 9)) = some (.string x.field) := h0
      have q1 : wr.cell? ⟨(ad.add (k * 9)).block, (ad.add (k * 9)).off + 1, none⟩ = some (.int .i64 x.e.op) := hk.1
      have q2 : wr.cell? ⟨(ad.add (k * 9)).block, (ad.add (k * 9)).off + 2, none⟩ = some (.slice A x.e.kids.length c) := hk.2.1
      have q3 : wr.cell? ⟨(ad.add (k * 9)).block, (ad.add (k * 9)).off + 3, none⟩ = some (.string x.e.name) := hk.2.2.1
      have q4 : wr.cell? ⟨(ad.add (k * 9)).block, (ad.add (k * 9)).off + 4, none⟩ = some (.int .i64 x.e.val.k) := hk.2.2.2.1
      have q5 : wr.cell? ⟨(ad.add (k * 9)).block, (ad.add (k * 9)).off + 5, none⟩ = some (.int .i64 x.e.val.i) := hk.2.2.2.2.1
      have q6 : wr.cell? ⟨(ad.add (k * 9)).block, (ad.add (k * 9)).off + 6, none⟩ = some (.bool x.e.val.b) := hk.2.2.2.2.2.1
      have q7 : wr.cell? ⟨(ad.add (k * 9)).block, (ad.add (k * 9)).off + 7, none⟩ = some (.string x.e.val.s) := hk.2.2.2.2.2.2.1
      have q8 : wr.cell? ⟨(ad.add (k * 9)).block, (ad.add (k * 9)).off + 8, none⟩ = some (.float .f64 x.e.val.n) := hk.2.2.2.2.2.2.2
      have hc := fun o => HP.out x hmem A c (wr.alloc o) (hb.trans ((alloc1 wr o).mono hb.size))
      clear hpart hmem
      have HC := Lib.hid hc
      rcases hd : (g x == (k : Int)) with _ | _
      all_goals
        rw [hd] at hfi
        have hne : (g x != (k : Int)) = !(g x == (k : Int)) := rfl
        rw [hd] at hne
        have HF := Lib.hid hfi
        clear hfi hd hc hdeep
        try simp only [Bool.not_true, Bool.not_false] at hne
        go_wp2_with (first | fail | (go_at_call 173; refine (HC.out _).mono ?_; rintro e w1 ⟨rfl, hb1⟩))
      · go_ret
        exact ⟨ret_bool (by have h := HF.out; simpa using h), (hb.trans ((alloc1 wr _).mono hb.size)).trans (hb1.mono (Nat.le_trans hb.size (alloc1 wr _).size))⟩
      · go_roundw
        case rel => exact ⟨k + 1, by omega, by go_num, by have h := HF.out; simpa using h, (hb.trans ((alloc1 wr _).mono hb.size)).trans (hb1.mono (Nat.le_trans hb.size (alloc1 wr _).size))⟩
        case measure => simp [intOf]; omega
    · obtain rfl : k = l.length := by omega
      rw [List.drop_length, onceF] at hfi
      have HF := Lib.hid hfi
      clear hfi
      go_wp2
      go_ret
      exact ⟨ret_bool HF.out, hb⟩
theorem eclo_Effect (pc : Nat) (p : Nat) (b : Bool) (x : Eff) (A : Option Addr) (c : Nat) (w : World) (h : w.cell? ⟨p, 0, none⟩ = some (.func (Fn.func 176) #[] #[.pointer (some ⟨pc, 0, none⟩)]))
    (hcall : ∀ W, Below w.heap.size w W → Calls Tryz.prog 176 #[agEf x A c, .pointer (some ⟨pc, 0, none⟩)] W (VMk (.bool b) W)) :
    Calls Tryz.prog 212 #[agEf x A c, .pointer (some ⟨p, 0, none⟩)] w (VMk (.bool (!b)) w) := by
  have hp : p < w.heap.size := World.block_lt_of_cell? w _ h
  have hne : ¬ w.heap.size = p := by omega
  have HC := Lib.hid hcall
  have hsf := fun (w : World) (a : Addr) (m : Mode) (b : Nat) => run_store Tryz.prog w a (.float .f64 b) m rfl
  clear hcall
  cases b
  all_goals
    go_enter Tryz.func212, Tryz.ntmps212
    go_wp2_with (go_at_call 176; refine (HC.out _ (alloc1 w _)).mono ?_; rintro e w1 ⟨rfl, hb1⟩)
    go_ret
    exact ⟨rfl, bel2 (alloc1 w _) hb1⟩
set_option maxHeartbeats 1000000 in
/-- IndexFunc over a row of Eff, by the closure quaestor/contract.each[quaestor/api.Effect] 1 -/
theorem idx_eEffect (P : Eff → Bool) (p : Nat) (A : Option Addr) (cc : Nat) (l : List Eff) (w : World) (hf : EffK w A cc l)
    (hcall : ∀ x ∈ l, ∀ (A : Option Addr) (c : Nat) W, Below w.heap.size w W → ExE W A c x.e → Calls Tryz.prog 212 #[agEf x A c, .pointer (some ⟨p, 0, none⟩)] W (VMk (.bool (P x)) W)) :
    Calls Tryz.prog 209 #[.slice A l.length cc, .func (Fn.func 212) #[] #[.pointer (some ⟨p, 0, none⟩)]] w (VMk (.int .i64 (firstB P l 0)) w) := by
  obtain ⟨h1, h2, h3, h4⟩ := hf
  unfold maxLen at h2
  have hlen : l.length ≤ 9223372036854775807 := by omega
  have HP := Lib.hid hcall
  have H4 := Lib.hid h4
  clear hcall h4 h1 h2 h3
  have hsf := fun (w : World) (a : Addr) (m : Mode) (b : Nat) => run_store Tryz.prog w a (.float .f64 b) m rfl
  go_enter Tryz.func209, Tryz.ntmps209
  go_wp2
  go_loopw [8] (fun i wr => ∃ k : Nat, k ≤ l.length ∧ i = .int .i64 k ∧ firstB P (l.drop k) k = firstB P l 0 ∧ Below w.heap.size w wr) (fun i _ => l.length - (intOf i).toNat)
  case atStart => exact ⟨0, Nat.zero_le _, rfl, rfl, Below.refl _ _⟩
  case round =>
    obtain ⟨k, hk, rfl, hfi, hb⟩ := hrel
    by_cases hlt : k < l.length
    · obtain ⟨ad, rfl, hbl, hpart⟩ := H4.out k hlt
      have hpart2 := hpart.below hb (by rw [block_add]; exact hbl)
      have hmem := List.getElem_mem hlt
      rw [List.drop_eq_getElem_cons hlt, firstB] at hfi
      generalize l[k] = x at *
      obtain ⟨A, c, h0, hk, hdeep⟩ := hpart2
      have q0 : wr.cell? (ad.add (k * 9)) = some (.string x.field) := h0
      have q1 : wr.cell? ⟨(ad.add (k * 9)).block, (ad.add (k * 9)).off + 1, none⟩ = some (.int .i64 x.e.op) := hk.1
      have q2 : wr.cell? ⟨(ad.add (k * 9)).block, (ad.add (k * 9)).off + 2, none⟩ = some (.slice A x.e.kids.length c) := hk.2.1
      have q3 : wr.cell? ⟨(ad.add (k * 9)).block, (ad.add (k * 9)).off + 3, none⟩ = some (.string x.e.name) := hk.2.2.1
      have q4 : wr.cell? ⟨(ad.add (k * 9)).block, (ad.add (k * 9)).off + 4, none⟩ = some (.int .i64 x.e.val.k) := hk.2.2.2.1
      have q5 : wr.cell? ⟨(ad.add (k * 9)).block, (ad.add (k * 9)).off + 5, none⟩ = some (.int .i64 x.e.val.i) := hk.2.2.2.2.1
      have q6 : wr.cell? ⟨(ad.add (k * 9)).block, (ad.add (k * 9)).off + 6, none⟩ = some (.bool x.e.val.b) := hk.2.2.2.2.2.1
      have q7 : wr.cell? ⟨(ad.add (k * 9)).block, (ad.add (k * 9)).off + 7, none⟩ = some (.string x.e.val.s) := hk.2.2.2.2.2.2.1
      have q8 : wr.cell? ⟨(ad.add (k * 9)).block, (ad.add (k * 9)).off + 8, none⟩ = some (.float .f64 x.e.val.n) := hk.2.2.2.2.2.2.2
      have hc := HP.out x hmem A c wr hb hdeep
      clear hpart hmem
      rcases hd : P x with _ | _
      all_goals
        rw [hd] at hc hfi
        have HC := Lib.hid hc
        have HF := Lib.hid hfi
        clear hc hfi hd hdeep
        go_wp2_with (go_at_call 212; refine HC.out.mono ?_; rintro e w1 ⟨rfl, hb1⟩)
      · go_roundw
        case rel => exact ⟨k + 1, by omega, by go_num, by have h := HF.out; rwa [if_neg (by decide)] at h, hb.trans (hb1.mono hb.size)⟩
        case measure => simp [intOf]; omega
      · go_ret
        exact ⟨ret_int (by have h := HF.out; simpa using h), hb.trans (hb1.mono hb.size)⟩
    · obtain rfl : k = l.length := by omega
      rw [List.drop_length, firstB] at hfi
      have HF := Lib.hid hfi
      clear hfi
      go_wp2
      go_ret
      exact ⟨ret_int HF.out, hb⟩
theorem cont_Effect (p : Nat) (A : Option Addr) (n cc : Nat) (r : Int) (w : World) (hi : Calls Tryz.prog 209 #[.slice A n cc, .func (Fn.func 212) #[] #[.pointer (some ⟨p, 0, none⟩)]] w (VMk (.int .i64 r) w)) :
    Calls Tryz.prog 211 #[.slice A n cc, .func (Fn.func 212) #[] #[.pointer (some ⟨p, 0, none⟩)]] w (VMk (.bool (decide (0 ≤ r))) w) := by
  have HI := Lib.hid hi
  clear hi
  by_cases h0 : 0 ≤ r
  · have hd : decide (0 ≤ r) = true := decide_eq_true h0
    rw [hd]
    clear hd
    go_enter Tryz.func211, Tryz.ntmps211
    go_wp2_with (go_at_call 209; refine HI.out.mono ?_; rintro e w1 ⟨rfl, hb1⟩)
    go_ret
    exact ⟨ret_bool (by first | (simp; done) | (simp; omega)), hb1⟩
  · have hd : decide (0 ≤ r) = false := decide_eq_false h0
    rw [hd]
    clear hd
    go_enter Tryz.func211, Tryz.ntmps211
    go_wp2_with (go_at_call 209; refine HI.out.mono ?_; rintro e w1 ⟨rfl, hb1⟩)
    go_ret
    exact ⟨ret_bool (by first | (simp; done) | (simp; omega)), hb1⟩
set_option maxHeartbeats 1000000 in
theorem each_Effect (pc : Nat) (P : Eff → Bool) (A : Option Addr) (cc : Nat) (l : List Eff) (w : World) (hf : EffK w A cc l)
    (hcall : ∀ x ∈ l, ∀ (A : Option Addr) (c : Nat) W, Below w.heap.size w W → ExE W A c x.e → Calls Tryz.prog 176 #[agEf x A c, .pointer (some ⟨pc, 0, none⟩)] W (VMk (.bool (P x)) W)) :
    Calls Tryz.prog 175 #[.slice A l.length cc, .func (Fn.func 176) #[] #[.pointer (some ⟨pc, 0, none⟩)]] w (VMk (.bool (l.all P)) w) := by
  have hcell : (w.alloc (.cells #[.func (Fn.func 176) #[] #[.pointer (some ⟨pc, 0, none⟩)]] 193)).cell? ⟨w.heap.size, 0, none⟩ = some (.func (Fn.func 176) #[] #[.pointer (some ⟨pc, 0, none⟩)]) := (cell_of_row _ _ 0 _ _ (0, 0) (heap_alloc_new w _)).trans rfl
  have hb0 := alloc1 w (.cells #[.func (Fn.func 176) #[] #[.pointer (some ⟨pc, 0, none⟩)]] 193)
  have hi := idx_eEffect (fun x => !P x) w.heap.size A cc l _ (EffK.below hf hb0) (fun x hx A c W hW hdeep => eclo_Effect pc w.heap.size (P x) x A c W (keepc hW (World.block_lt_of_cell? _ _ hcell) hcell) (fun W2 hW2 => hcall x hx A c W2 (bel2 (bel2 hb0 hW) hW2) (hdeep.below hW2)))
  have hi := cont_Effect _ _ _ _ _ _ hi
  rw [first_all P l 0] at hi
  generalize l.all P = b at *
  have HI := Lib.hid hi
  have HB := Lib.hid hb0
  clear hi hb0 hcell hcall hf
  have hsf := fun (w : World) (a : Addr) (m : Mode) (b : Nat) => run_store Tryz.prog w a (.float .f64 b) m rfl
  cases b
  all_goals
    go_enter Tryz.func175, Tryz.ntmps175
    go_wp2_with (go_at_call 211; refine HI.out.mono ?_; rintro e w1 ⟨rfl, hb1⟩)
    go_ret
    exact ⟨rfl, bel2 HB.out hb1⟩
end Go.Proofs.YthgdnpcfdgimlabGreat

/- Layer 6: names, organizations, stages, by the program. -/
namespace Go.Proofs.YthgdnpcfdgimlabGreat
open Go.RowKit
set_option linter.unusedVariables false
set_option linter.unusedSimpArgs false
set_option maxRecDepth 20000

theorem among_any (n a b : Int) (w : World) : Calls Tryz.prog 67 #[.int .i64 n, .int .i64 a, .int .i64 b] w (VGv (.bool (decide (a ≤ n) && decide (n ≤ b))) w) := by
  by_cases h1 : a ≤ n
  · by_cases h2 : n ≤ b
    · have e : (decide (a ≤ n) && decide (n ≤ b)) = true := by simp [h1, h2]
      rw [e]; clear e
      go_enter Tryz.func67, Tryz.ntmps67
      go_wp2
      go_ret
      exact ⟨ret_bool (by simp [h2]), rfl⟩
    · have e : (decide (a ≤ n) && decide (n ≤ b)) = false := by simp [h2]
      rw [e]; clear e
      go_enter Tryz.func67, Tryz.ntmps67
      go_wp2
      go_ret
      exact ⟨ret_bool (by first | (simp; done) | (simp; omega)), rfl⟩
  · have e : (decide (a ≤ n) && decide (n ≤ b)) = false := by simp [h1]
    rw [e]; clear e
    go_enter Tryz.func67, Tryz.ntmps67
    go_wp2
    go_ret
    exact ⟨rfl, rfl⟩
theorem isName_any (s : ByteArray) (w : World) : Calls Tryz.prog 30 #[.string s] w (VGv (.bool (nameB s)) w) := by
  have HA := Lib.hid (fun W => among_any (s.size : Int) 1 16 W)
  have hn : nameB s = (decide (1 ≤ (s.size : Int)) && decide ((s.size : Int) ≤ 16)) := rfl
  rw [hn]
  clear hn
  generalize (decide (1 ≤ (s.size : Int)) && decide ((s.size : Int) ≤ 16)) = b at *
  go_enter Tryz.func30, Tryz.ntmps30
  go_wp2_with (go_at_call 67; refine (HA.out _).mono ?_; rintro e w' ⟨rfl, rfl⟩)
  go_ret
  exact ⟨rfl, rfl⟩
theorem Is.open {w : World} {A : Option Addr} {n c : Nat} {l : List Int} (h : Is w (.slice A n c) l) : n = l.length ∧ l.length ≤ maxLen ∧ ∀ k (hk : k < l.length), ∃ ad, A = some ad ∧ ad.block < w.heap.size ∧ w.cell? (ad.add k) = some (.int .i64 l[k]) := by
  obtain ⟨A', c', hv, hc, hm, -, hx⟩ := h
  injection hv with e1 e2 e3
  subst e1 e2 e3
  simp only [List.length_map] at hc ⊢
  refine ⟨by first | rfl | simp, by first | omega | exact Nat.le_trans hc hm | exact Nat.le_of_lt (Nat.lt_of_le_of_lt hc hm), fun k hk => ?_⟩
  obtain ⟨ad, ha, hl, hr⟩ := hx (by intro e; have h0 := congrArg List.length e; simp at h0; subst h0; simp at hk)
  exact ⟨ad, ha, hl, hr k _ (by first | (simp [hk]; done) | exact (List.getElem?_map ..).trans (by simp [hk]))⟩
set_option maxHeartbeats 1000000 in
theorem rightOrgs_any (A : Option Addr) (c : Nat) (l : List Int) (w : World) (h : Is w (.slice A l.length c) l) : Calls Tryz.prog 124 #[.slice A l.length c] w (VGv (.bool (orgsR (-1) l)) w) := by
  obtain ⟨-, hm, hx⟩ := h.open
  unfold maxLen at hm
  have HX := Lib.hid hx
  clear h hx
  go_enter Tryz.func124, Tryz.ntmps124
  go_wp2
  go_loopw [3, 8] (fun a i wr => ∃ k : Nat, ∃ z : Int, k ≤ l.length ∧ i = .int .i64 k ∧ a = .int .i64 z ∧ -1 ≤ z ∧ z ≤ 3 ∧ orgsR z (l.drop k) = orgsR (-1) l ∧ wr = w) (fun _ i _ => l.length - (intOf i).toNat)
  case atStart => exact ⟨0, -1, Nat.zero_le _, rfl, rfl, by omega, by omega, rfl, rfl⟩
  case round =>
    obtain ⟨k, z, hk, rfl, rfl, hz1, hz2, hfi, rfl⟩ := hrel
    by_cases hlt : k < l.length
    · obtain ⟨ad, rfl, hbl, hq⟩ := HX.out k hlt
      rw [List.drop_eq_getElem_cons hlt, orgsR] at hfi
      generalize l[k] = x at *
      have HC := Lib.hid (fun W => among_any x (z + 1) 3 W)
      have hw : IntKind.i64.wrap (z + 1) = z + 1 := by rw [IntKind.wrap_i64]; omega
      rcases hd : (decide (z + 1 ≤ x) && decide (x ≤ 3)) with _ | _
      all_goals
        rw [hd] at hfi HC
        have HD := Lib.hid hd
        have HF := Lib.hid hfi
        clear hfi hd
        go_wp2_with (first | fail | (go_at_call 67; refine (HC.out _).mono ?_; rintro e w1 ⟨rfl, rfl⟩))
      · go_ret
        exact ⟨ret_bool (by have h := HF.out; simpa using h), rfl⟩
      · go_roundw
        case rel => exact ⟨k + 1, x, by omega, by go_num, rfl, by have h := HD.out; simp at h; omega, by have h := HD.out; simp at h; omega, by have h := HF.out; simpa using h, by trivial⟩
        case measure => simp [intOf]; omega
    · obtain rfl : k = l.length := by omega
      rw [List.drop_length, orgsR] at hfi
      have HF := Lib.hid hfi
      clear hfi
      go_wp2
      go_ret
      exact ⟨ret_bool HF.out, rfl⟩
set_option maxHeartbeats 1000000 in
theorem rightStage_any (x : Stg) (A : Option Addr) (c : Nat) (w : World) (h : Is w (.slice A x.orgs.length c) x.orgs) : Calls Tryz.prog 75 #[agSt x A c] w (VMk (.bool (stageR x)) w) := by
  have hl := h.open.2.1
  unfold maxLen at hl
  have HO := Lib.hid (fun W (hb : Below w.heap.size w W) => rightOrgs_any A c x.orgs W (Rd.below h hb (Nat.le_refl _)))
  have HN := Lib.hid (fun W => isName_any x.name W)
  have HA := Lib.hid (fun W => among_any x.need 0 (x.orgs.length : Int) W)
  unfold stageR
  clear h
  generalize nameB x.name = b1 at *
  generalize orgsR (-1) x.orgs = b2 at *
  generalize (decide (0 ≤ x.need) && decide (x.need ≤ (x.orgs.length : Int))) = b3 at *
  go_enter Tryz.func75, Tryz.ntmps75
  have HO2 := Lib.hid (fun o => HO.out (w.alloc o) (alloc1 w o))
  rcases b1 with _ | _ <;> rcases b2 with _ | _
  all_goals
    go_wp2_with (first | fail | (go_at_call 30; refine (HN.out _).mono ?_; rintro e w1 ⟨rfl, rfl⟩) | (go_at_call 124; refine (HO2.out _).mono ?_; rintro e w1 ⟨rfl, rfl⟩) | (go_at_call 67; refine (HA.out _).mono ?_; rintro e w1 ⟨rfl, rfl⟩))
    go_ret
    exact ⟨ret_bool (by simp), alloc1 w _⟩
end Go.Proofs.YthgdnpcfdgimlabGreat

/- Layer 6: stages, all of them, by the program; what stands once, by two definitions. -/
namespace Go.Proofs.YthgdnpcfdgimlabGreat
open Go.RowKit
set_option linter.unusedVariables false
set_option linter.unusedSimpArgs false
set_option maxRecDepth 20000

theorem onceF_iff {α : Type} (g : α → Int) : ∀ (l : List α) (i : Nat), onceF g l i = true ↔ ∀ (k : Nat) (hk : k < l.length), g l[k] = ((i + k : Nat) : Int)
  | [], i => by simp [onceF]
  | x :: l, i => by
    rw [onceF, Bool.and_eq_true, beq_iff_eq, onceF_iff g l (i + 1)]
    constructor
    · rintro ⟨h1, h2⟩ k hk
      cases k with
      | zero => simpa using h1
      | succ k =>
        have := h2 k (by simpa using hk)
        rw [List.getElem_cons_succ, this]
        omega
    · intro h
      refine ⟨(h 0 (by simp)).trans (by simp), fun k hk => ?_⟩
      have := h (k + 1) (by simpa using hk)
      rw [List.getElem_cons_succ] at this
      rw [this]
      omega
theorem onceN_of {α : Type} (nm : α → ByteArray) (l : List α) : onceN (l.map nm) = onceF (fun x => placeN (nm x) (l.map nm) 0) l 0 := by
  rw [Bool.eq_iff_iff, onceN_iff, onceF_iff]
  constructor
  · intro h k hk
    have := h k (by simpa using hk)
    simpa using this
  · intro h k hk
    have := h k (by simpa using hk)
    simpa using this
set_option maxHeartbeats 1000000 in
theorem rightStages_any (ct : Ctr) (FA : Option Addr) (fc : Nat) (SA : Option Addr) (sc : Nat) (MA : Option Addr) (mc : Nat) (w : World) (h : CtK w ct FA fc SA sc MA mc) :
    Calls Tryz.prog 32 #[agC ct.name FA ct.fs.length fc SA ct.ss.length sc MA ct.ms.length mc] w (VMk (.bool (stagesR ct)) w) := by
  have hm := h.s.2.1
  unfold maxLen at hm
  have hb0 := alloc1 w (.cells #[.string ct.name, .slice FA ct.fs.length fc, .slice SA ct.ss.length sc, .slice MA ct.ms.length mc] 26)
  have hc := fun i => cell_of_row (w.alloc (.cells #[.string ct.name, .slice FA ct.fs.length fc, .slice SA ct.ss.length sc, .slice MA ct.ms.length mc] 26)) w.heap.size i _ 26 (0, 0) (heap_alloc_new w _)
  have c0 := (hc 0).trans rfl
  have c1 := (hc 1).trans rfl
  have c2 : (w.alloc (.cells #[.string ct.name, .slice FA ct.fs.length fc, .slice SA ct.ss.length sc, .slice MA ct.ms.length mc] 26)).cell? ⟨w.heap.size, 2, none⟩ = some (.slice SA ct.ss.length sc) := (hc 2).trans rfl
  have c3 := (hc 3).trans rfl
  have hlt := World.block_lt_of_cell? _ _ c0
  have ho := once_Stage (fun x => placeN x.name (ct.ss.map Stg.name) 0) w.heap.size SA sc ct.ss _ (h.s.below hb0) (fun x hx A c W hW => clo1_Stage w.heap.size ct FA fc SA sc MA mc x A c W (keepc hW hlt c0) (keepc hW hlt c1) (keepc hW hlt c2) (keepc hW hlt c3) (h.below (bel2 hb0 hW)))
  have he := fun W hW => each_Stage stageR SA sc ct.ss W (h.s.below (bel2 hb0 hW)) (fun x hx A c W2 hW2 hI => rightStage_any x A c W2 hI)
  have HA := Lib.hid (fun W => among_any (ct.ss.length : Int) 1 6 W)
  have HO := Lib.hid ho
  have HE := Lib.hid he
  have HQ := Lib.hid (fun (w1 : World) (hb1 : Below (w.alloc (.cells #[.string ct.name, .slice FA ct.fs.length fc, .slice SA ct.ss.length sc, .slice MA ct.ms.length mc] 26)).heap.size (w.alloc (.cells #[.string ct.name, .slice FA ct.fs.length fc, .slice SA ct.ss.length sc, .slice MA ct.ms.length mc] 26)) w1) => keepc hb1 hlt c2)
  unfold stagesR
  rw [onceN_of]
  clear h ho he hc c0 c1 c2 c3 hb0 hlt
  generalize onceF (fun x => placeN x.name (ct.ss.map Stg.name) 0) ct.ss 0 = b2 at *
  generalize (decide (1 ≤ (ct.ss.length : Int)) && decide ((ct.ss.length : Int) ≤ 6)) = b1 at *
  generalize ct.ss.all stageR = b3 at *
  go_enter Tryz.func32, Tryz.ntmps32
  rcases b1 with _ | _ <;> rcases b2 with _ | _
  all_goals
    go_wp2_with (first | fail | (go_at_call 67; refine (HA.out _).mono ?_; rintro e w1 ⟨rfl, rfl⟩) | (go_at_call 72; refine HO.out.mono ?_; rintro e w1 ⟨rfl, hb1⟩; have hq := HQ.out _ hb1) | (go_at_call 74; refine (HE.out _ hb1).mono ?_; rintro e w2 ⟨rfl, hb2⟩))
    go_ret
    first | exact ⟨ret_bool (by simp), alloc1 w _⟩ | exact ⟨ret_bool (by simp), bel2 (alloc1 w _) hb1⟩ | exact ⟨ret_bool (by simp), bel2 (bel2 (alloc1 w _) hb1) hb2⟩
end Go.Proofs.YthgdnpcfdgimlabGreat

/- Layer 6: the texts of a field, by the program. -/
namespace Go.Proofs.YthgdnpcfdgimlabGreat
open Go.RowKit
set_option linter.unusedVariables false
set_option linter.unusedSimpArgs false
set_option maxRecDepth 20000

/-- where a text stands first -/
theorem cIndex_any (A : Option Addr) (c : Nat) (l : List ByteArray) (s : ByteArray) (w : World) (hv : Ss w (.slice A l.length c) l) : Calls Tryz.prog 168 #[.slice A l.length c, .string s] w (VGv (.int .i64 (placeN s l 0)) w) := by
  obtain ⟨A', c', he, hm, hx⟩ := hv.open
  injection he with e1 e2 e3
  subst e1 e3
  unfold maxLen at hm
  have HX := Lib.hid hx
  clear hx hv e2
  go_enter Tryz.func168, Tryz.ntmps168
  go_wp2
  go_loop [8] (fun i => ∃ k : Nat, k ≤ l.length ∧ i = .int .i64 k ∧ placeN s (l.drop k) k = placeN s l 0) (fun i => l.length - (intOf i).toNat)
  case atStart => exact ⟨0, Nat.zero_le _, rfl, rfl⟩
  case round =>
    obtain ⟨k, hk, rfl, hfi⟩ := hrel
    by_cases hlt : k < l.length
    · obtain ⟨ad, rfl, hbl, hcell⟩ := HX.out k hlt
      rw [List.drop_eq_getElem_cons hlt, placeN] at hfi
      generalize l[k] = x at *
      rcases heq : (s.toList == x.toList) with _ | _
      · rw [if_neg (by rw [BEq.comm, heq]; decide)] at hfi
        have HF := Lib.hid hfi
        clear hfi
        go_wp2
        go_round
        case rel => exact ⟨k + 1, by omega, by go_num, HF.out⟩
        case measure => simp [intOf]; omega
      · rw [if_pos (by rw [BEq.comm, heq])] at hfi
        have HF := Lib.hid hfi
        clear hfi
        go_wp2
        go_ret
        exact ⟨by rw [← HF.out]; rfl, rfl⟩
    · obtain rfl : k = l.length := by omega
      rw [List.drop_length, placeN] at hfi
      have HF := Lib.hid hfi
      clear hfi HX
      go_wp2
      go_ret
      exact ⟨by rw [← HF.out]; rfl, rfl⟩
set_option maxHeartbeats 1000000 in
theorem once_Str (g : ByteArray → Int) (p : Nat) (A : Option Addr) (cc : Nat) (l : List ByteArray) (w : World) (hf : Ss w (.slice A l.length cc) l)
    (hcall : ∀ x ∈ l, ∀ W, Below w.heap.size w W → Calls Tryz.prog 167 #[.string x, .pointer (some ⟨p, 0, none⟩)] W (VMk (.int .i64 (g x)) W)) :
    Calls Tryz.prog 166 #[.slice A l.length cc, .func (Fn.func 167) #[] #[.pointer (some ⟨p, 0, none⟩)]] w (VMk (.bool (onceF g l 0)) w) := by
  obtain ⟨A', c', he, hm, hx⟩ := hf.open
  injection he with e1 e2 e3
  subst e1 e3
  unfold maxLen at hm
  have HP := Lib.hid hcall
  have HX := Lib.hid hx
  clear hcall hx hf e2
  go_enter Tryz.func166, Tryz.ntmps166
  go_wp2
  go_loopw [9] (fun i wr => ∃ k : Nat, k ≤ l.length ∧ i = .int .i64 k ∧ onceF g (l.drop k) k = onceF g l 0 ∧ Below w.heap.size w wr) (fun i _ => l.length - (intOf i).toNat)
  case atStart => exact ⟨0, Nat.zero_le _, rfl, rfl, Below.refl _ _⟩
  case round =>
    obtain ⟨k, hk, rfl, hfi, hb⟩ := hrel
    by_cases hlt : k < l.length
    · obtain ⟨ad, rfl, hbl, hcell⟩ := HX.out k hlt
      have hcell2 := (hb.cell (p := ad.add k) (by rw [block_add]; exact hbl)).trans hcell
      have hmem := List.getElem_mem hlt
      rw [List.drop_eq_getElem_cons hlt, onceF] at hfi
      generalize l[k] = x at *
      have HC := Lib.hid (HP.out x hmem wr hb)
      clear hmem hcell
      rcases hd : (g x == (k : Int)) with _ | _
      all_goals
        rw [hd] at hfi
        have hne : (g x != (k : Int)) = !(g x == (k : Int)) := rfl
        rw [hd] at hne
        have HF := Lib.hid hfi
        clear hfi hd
        try simp only [Bool.not_true, Bool.not_false] at hne
        go_wp2_with (first | fail | (go_at_call 167; refine HC.out.mono ?_; rintro e w1 ⟨rfl, hb1⟩))
      · go_ret
        exact ⟨ret_bool (by have h := HF.out; simpa using h), hb.trans (hb1.mono hb.size)⟩
      · go_roundw
        case rel => exact ⟨k + 1, by omega, by go_num, by have h := HF.out; simpa using h, hb.trans (hb1.mono hb.size)⟩
        case measure => simp [intOf]; omega
    · obtain rfl : k = l.length := by omega
      rw [List.drop_length, onceF] at hfi
      have HF := Lib.hid hfi
      clear hfi
      go_wp2
      go_ret
      exact ⟨ret_bool HF.out, hb⟩
end Go.Proofs.YthgdnpcfdgimlabGreat

/- Layer 6: the texts of a field, all of them short, by the program. -/
namespace Go.Proofs.YthgdnpcfdgimlabGreat
open Go.RowKit
set_option linter.unusedVariables false
set_option linter.unusedSimpArgs false
set_option maxRecDepth 20000

/-- the closure that asks whether a text is short -/
theorem short_Str (x : ByteArray) (w : World) : Calls Tryz.prog 170 #[.string x] w (VMk (.bool (decide ((x.size : Int) ≤ 32))) w) := by
  go_enter Tryz.func170, Tryz.ntmps170
  go_wp2
  go_ret
  exact ⟨rfl, Below.refl _ _⟩
set_option maxHeartbeats 1000000 in
theorem eclo_Str (p : Nat) (b : Bool) (x : ByteArray) (w : World) (h : w.cell? ⟨p, 0, none⟩ = some (.func (Fn.func 170) #[] #[]))
    (hcall : ∀ W, Below w.heap.size w W → Calls Tryz.prog 170 #[.string x] W (VMk (.bool b) W)) :
    Calls Tryz.prog 208 #[.string x, .pointer (some ⟨p, 0, none⟩)] w (VMk (.bool (!b)) w) := by
  have hp : p < w.heap.size := World.block_lt_of_cell? w _ h
  have hne : ¬ w.heap.size = p := by omega
  have HC := Lib.hid hcall
  clear hcall
  cases b
  all_goals
    go_enter Tryz.func208, Tryz.ntmps208
    go_wp2_with (go_at_call 170; refine (HC.out _ (Below.refl _ _)).mono ?_; rintro e w1 ⟨rfl, hb1⟩)
    go_ret
    exact ⟨rfl, hb1⟩
set_option maxHeartbeats 1000000 in
/-- IndexFunc over a row of Stg, by the closure quaestor/contract.each[string] 1 -/
theorem idx_eStr (P : ByteArray → Bool) (p : Nat) (A : Option Addr) (cc : Nat) (l : List ByteArray) (w : World) (hf : Ss w (.slice A l.length cc) l)
    (hcall : ∀ x ∈ l, ∀ W, Below w.heap.size w W → Calls Tryz.prog 208 #[.string x, .pointer (some ⟨p, 0, none⟩)] W (VMk (.bool (P x)) W)) :
    Calls Tryz.prog 227 #[.slice A l.length cc, .func (Fn.func 208) #[] #[.pointer (some ⟨p, 0, none⟩)]] w (VMk (.int .i64 (firstB P l 0)) w) := by
  obtain ⟨A', c', he, hm, hx⟩ := hf.open
  injection he with e1 e2 e3
  subst e1 e3
  unfold maxLen at hm
  have HP := Lib.hid hcall
  have H4 := Lib.hid hx
  clear hcall hx hf e2
  go_enter Tryz.func227, Tryz.ntmps227
  go_wp2
  go_loopw [8] (fun i wr => ∃ k : Nat, k ≤ l.length ∧ i = .int .i64 k ∧ firstB P (l.drop k) k = firstB P l 0 ∧ Below w.heap.size w wr) (fun i _ => l.length - (intOf i).toNat)
  case atStart => exact ⟨0, Nat.zero_le _, rfl, rfl, Below.refl _ _⟩
  case round =>
    obtain ⟨k, hk, rfl, hfi, hb⟩ := hrel
    by_cases hlt : k < l.length
    · obtain ⟨ad, rfl, hbl, hpart⟩ := H4.out k hlt
      have hcell2 := (hb.cell (p := ad.add k) (by rw [block_add]; exact hbl)).trans hpart
      have hmem := List.getElem_mem hlt
      rw [List.drop_eq_getElem_cons hlt, firstB] at hfi
      generalize l[k] = x at *
      have hc := HP.out x hmem wr hb
      clear hpart hmem
      rcases hd : P x with _ | _
      all_goals
        rw [hd] at hc hfi
        have HC := Lib.hid hc
        have HF := Lib.hid hfi
        clear hc hfi hd
        go_wp2_with (go_at_call 208; refine HC.out.mono ?_; rintro e w1 ⟨rfl, hb1⟩)
      · go_roundw
        case rel => exact ⟨k + 1, by omega, by go_num, by have h := HF.out; rwa [if_neg (by decide)] at h, hb.trans (hb1.mono hb.size)⟩
        case measure => simp [intOf]; omega
      · go_ret
        exact ⟨ret_int (by have h := HF.out; simpa using h), hb.trans (hb1.mono hb.size)⟩
    · obtain rfl : k = l.length := by omega
      rw [List.drop_length, firstB] at hfi
      have HF := Lib.hid hfi
      clear hfi
      go_wp2
      go_ret
      exact ⟨ret_int HF.out, hb⟩
theorem cont_Str (p : Nat) (A : Option Addr) (n cc : Nat) (r : Int) (w : World) (hi : Calls Tryz.prog 227 #[.slice A n cc, .func (Fn.func 208) #[] #[.pointer (some ⟨p, 0, none⟩)]] w (VMk (.int .i64 r) w)) :
    Calls Tryz.prog 207 #[.slice A n cc, .func (Fn.func 208) #[] #[.pointer (some ⟨p, 0, none⟩)]] w (VMk (.bool (decide (0 ≤ r))) w) := by
  have HI := Lib.hid hi
  clear hi
  by_cases h0 : 0 ≤ r
  · have hd : decide (0 ≤ r) = true := decide_eq_true h0
    rw [hd]
    clear hd
    go_enter Tryz.func207, Tryz.ntmps207
    go_wp2_with (go_at_call 227; refine HI.out.mono ?_; rintro e w1 ⟨rfl, hb1⟩)
    go_ret
    exact ⟨ret_bool (by first | (simp; done) | (simp; omega)), hb1⟩
  · have hd : decide (0 ≤ r) = false := decide_eq_false h0
    rw [hd]
    clear hd
    go_enter Tryz.func207, Tryz.ntmps207
    go_wp2_with (go_at_call 227; refine HI.out.mono ?_; rintro e w1 ⟨rfl, hb1⟩)
    go_ret
    exact ⟨ret_bool (by first | (simp; done) | (simp; omega)), hb1⟩
set_option maxHeartbeats 1000000 in
theorem each_Str (P : ByteArray → Bool) (A : Option Addr) (cc : Nat) (l : List ByteArray) (w : World) (hf : Ss w (.slice A l.length cc) l)
    (hcall : ∀ x ∈ l, ∀ W, Below w.heap.size w W → Calls Tryz.prog 170 #[.string x] W (VMk (.bool (P x)) W)) :
    Calls Tryz.prog 169 #[.slice A l.length cc, .func (Fn.func 170) #[] #[]] w (VMk (.bool (l.all P)) w) := by
  have hcell : (w.alloc (.cells #[.func (Fn.func 170) #[] #[]] 70)).cell? ⟨w.heap.size, 0, none⟩ = some (.func (Fn.func 170) #[] #[]) := (cell_of_row _ _ 0 _ _ (0, 0) (heap_alloc_new w _)).trans rfl
  have hb0 := alloc1 w (.cells #[.func (Fn.func 170) #[] #[]] 70)
  have hi := idx_eStr (fun x => !P x) w.heap.size A cc l _ (Ss.below hf hb0 (Nat.le_refl _)) (fun x hx W hW => eclo_Str w.heap.size (P x) x W (keepc hW (World.block_lt_of_cell? _ _ hcell) hcell) (fun W2 hW2 => hcall x hx W2 (bel2 (bel2 hb0 hW) hW2)))
  have hi := cont_Str _ _ _ _ _ _ hi
  rw [first_all P l 0] at hi
  generalize l.all P = b at *
  have HI := Lib.hid hi
  have HB := Lib.hid hb0
  clear hi hb0 hcell hcall hf
  cases b
  all_goals
    go_enter Tryz.func169, Tryz.ntmps169
    go_wp2_with (go_at_call 207; refine HI.out.mono ?_; rintro e w1 ⟨rfl, hb1⟩)
    go_ret
    exact ⟨rfl, bel2 HB.out hb1⟩
end Go.Proofs.YthgdnpcfdgimlabGreat

/- Layer 6: a field by itself, by the program. -/
namespace Go.Proofs.YthgdnpcfdgimlabGreat
open Go.RowKit
set_option linter.unusedVariables false
set_option linter.unusedSimpArgs false
set_option maxRecDepth 20000

/-- the closure that tells where a text of a field stands first -/
theorem clo_enum (p : Nat) (A : Option Addr) (c : Nat) (l : List ByteArray) (s : ByteArray) (w : World) (h2 : w.cell? ⟨p, 2, none⟩ = some (.slice A l.length c)) (hs : Ss w (.slice A l.length c) l) :
    Calls Tryz.prog 167 #[.string s, .pointer (some ⟨p, 0, none⟩)] w (VMk (.int .i64 (placeN s l 0)) w) := by
  have HI := Lib.hid (cIndex_any A c l s w hs)
  clear hs
  generalize placeN s l 0 = r at *
  go_enter Tryz.func167, Tryz.ntmps167
  go_wp2_with (go_at_call 168; refine HI.out.mono ?_; rintro e w1 ⟨rfl, rfl⟩)
  go_ret
  exact ⟨rfl, Below.refl _ _⟩
set_option maxHeartbeats 1000000 in
theorem rightEnum_any (x : Fld) (A : Option Addr) (c : Nat) (w : World) (h : Ss w (.slice A x.en.length c) x.en) : Calls Tryz.prog 120 #[agFl x A c] w (VMk (.bool (enumR x)) w) := by
  have hm : x.en.length ≤ maxLen := by
    obtain ⟨A', c', he, hm, -⟩ := h.open
    exact hm
  unfold maxLen at hm
  have hb0 := alloc1 w (.cells #[.string x.f.name, .int .i64 x.f.kind, .slice A x.en.length c, .int .i64 x.y.k, .int .i64 x.y.i, .bool x.y.b, .string x.y.s, .float .f64 x.y.n] 55)
  have c2 : (w.alloc (.cells #[.string x.f.name, .int .i64 x.f.kind, .slice A x.en.length c, .int .i64 x.y.k, .int .i64 x.y.i, .bool x.y.b, .string x.y.s, .float .f64 x.y.n] 55)).cell? ⟨w.heap.size, 2, none⟩ = some (.slice A x.en.length c) := (cell_of_row _ _ 2 _ _ (0, 0) (heap_alloc_new w _)).trans rfl
  have hlt := World.block_lt_of_cell? _ _ c2
  have ho := once_Str (fun s => placeN s x.en 0) w.heap.size A c x.en _ (h.below hb0 (Nat.le_refl _)) (fun s hs W hW => clo_enum w.heap.size A c x.en s W (keepc hW hlt c2) (h.below (bel2 hb0 hW) (Nat.le_refl _)))
  have he := fun W hW => each_Str (fun s => decide ((s.size : Int) ≤ 32)) A c x.en W (h.below (bel2 hb0 hW) (Nat.le_refl _)) (fun s hs W2 hW2 => short_Str s W2)
  have HO := Lib.hid ho
  have HE := Lib.hid he
  have HQ := Lib.hid (fun (w1 : World) (hb1 : Below (w.alloc (.cells #[.string x.f.name, .int .i64 x.f.kind, .slice A x.en.length c, .int .i64 x.y.k, .int .i64 x.y.i, .bool x.y.b, .string x.y.s, .float .f64 x.y.n] 55)).heap.size (w.alloc (.cells #[.string x.f.name, .int .i64 x.f.kind, .slice A x.en.length c, .int .i64 x.y.k, .int .i64 x.y.i, .bool x.y.b, .string x.y.s, .float .f64 x.y.n] 55)) w1) => (show w1.cell? ⟨w.heap.size, 2, none⟩ = some (.slice A x.en.length c) from keepc hb1 hlt c2))
  have hon : onceN x.en = onceF (fun s => placeN s x.en 0) x.en 0 := by
    have h := onceN_of (fun s : ByteArray => s) x.en
    rwa [List.map_id'] at h
  unfold enumR
  rw [hon]
  clear h ho he c2 hb0 hlt hon
  generalize onceF (fun s => placeN s x.en 0) x.en 0 = b2 at *
  generalize x.en.all (fun s => decide ((s.size : Int) ≤ 32)) = b3 at *
  have hemp : x.en.isEmpty = ((x.en.length : Int) == 0) := by cases x.en <;> simp <;> omega
  rw [hemp]
  clear hemp
  have hsf := fun (w : World) (a : Addr) (m : Mode) (b : Nat) => run_store Tryz.prog w a (.float .f64 b) m rfl
  go_enter Tryz.func120, Tryz.ntmps120
  by_cases h0 : x.en.length = 0
  · rw [h0]
    have h0i : ((x.en.length : Int) == 0) = true := by rw [h0]; rfl
    go_wp2
    go_ret
    exact ⟨ret_bool (by simp), alloc1 w _⟩
  · have hz : ((x.en.length : Int) == 0) = false := beq_eq_false_iff_ne.2 (by omega)
    rw [hz]
    by_cases h3 : x.f.kind = 3
    · have hk : (x.f.kind == 3) = true := beq_iff_eq.2 h3
      rw [hk]
      clear h3
      by_cases h4 : (x.en.length : Int) ≤ 4
      · have hd : decide ((x.en.length : Int) ≤ 4) = true := decide_eq_true h4
        rw [hd]
        rcases b2 with _ | _
        all_goals
          go_wp2_with (first | fail | (go_at_call 166; refine HO.out.mono ?_; rintro e w1 ⟨rfl, hb1⟩; have hq := HQ.out _ hb1) | (go_at_call 169; refine (HE.out _ hb1).mono ?_; rintro e w2 ⟨rfl, hb2⟩))
          go_ret
          first | exact ⟨ret_bool (by simp), bel2 (alloc1 w _) hb1⟩ | exact ⟨ret_bool (by simp), bel2 (bel2 (alloc1 w _) hb1) hb2⟩
      · have hd : decide ((x.en.length : Int) ≤ 4) = false := decide_eq_false h4
        rw [hd]
        go_wp2
        go_ret
        exact ⟨ret_bool (by first | (simp; done) | (simp; omega)), alloc1 w _⟩
    · have hk : (x.f.kind == 3) = false := beq_eq_false_iff_ne.2 h3
      rw [hk]
      go_wp2
      go_ret
      exact ⟨ret_bool (by first | (simp; done) | (simp; omega)), alloc1 w _⟩
end Go.Proofs.YthgdnpcfdgimlabGreat

/- Layer 6: a field by itself, an effect by itself, by the program. -/
namespace Go.Proofs.YthgdnpcfdgimlabGreat
open Go.RowKit
set_option linter.unusedVariables false
set_option linter.unusedSimpArgs false
set_option maxRecDepth 20000

/-- a contract's cells in block b -/
abbrev bxC (nm : ByteArray) (FA : Option Addr) (fn fc : Nat) (SA : Option Addr) (sn sc : Nat) (MA : Option Addr) (mn mc : Nat) : Obj := .cells #[.string nm, .slice FA fn fc, .slice SA sn sc, .slice MA mn mc] 26
def BxC (w : World) (b : Nat) (nm : ByteArray) (FA : Option Addr) (fn fc : Nat) (SA : Option Addr) (sn sc : Nat) (MA : Option Addr) (mn mc : Nat) : Prop :=
  w.cell? ⟨b, 0, none⟩ = some (.string nm) ∧ w.cell? ⟨b, 1, none⟩ = some (.slice FA fn fc) ∧ w.cell? ⟨b, 2, none⟩ = some (.slice SA sn sc) ∧ w.cell? ⟨b, 3, none⟩ = some (.slice MA mn mc)
theorem BxC.lt {w : World} {b : Nat} {nm : ByteArray} {FA : Option Addr} {fn fc : Nat} {SA : Option Addr} {sn sc : Nat} {MA : Option Addr} {mn mc : Nat} (h : BxC w b nm FA fn fc SA sn sc MA mn mc) : b < w.heap.size := World.block_lt_of_cell? _ _ h.1
theorem BxC.below {w w' : World} {b : Nat} {nm : ByteArray} {FA : Option Addr} {fn fc : Nat} {SA : Option Addr} {sn sc : Nat} {MA : Option Addr} {mn mc : Nat} (h : BxC w b nm FA fn fc SA sn sc MA mn mc) (hb : Below w.heap.size w w') : BxC w' b nm FA fn fc SA sn sc MA mn mc :=
  ⟨keepc hb h.lt h.1, keepc hb h.lt h.2.1, keepc hb h.lt h.2.2.1, keepc hb h.lt h.2.2.2⟩
theorem BxC.new (w : World) (nm : ByteArray) (FA : Option Addr) (fn fc : Nat) (SA : Option Addr) (sn sc : Nat) (MA : Option Addr) (mn mc : Nat) : BxC (w.alloc (bxC nm FA fn fc SA sn sc MA mn mc)) w.heap.size nm FA fn fc SA sn sc MA mn mc := by
  have h := heap_alloc_new w (bxC nm FA fn fc SA sn sc MA mn mc)
  exact ⟨(cell_of_row _ _ 0 _ _ (0, 0) h).trans rfl, (cell_of_row _ _ 1 _ _ (0, 0) h).trans rfl, (cell_of_row _ _ 2 _ _ (0, 0) h).trans rfl, (cell_of_row _ _ 3 _ _ (0, 0) h).trans rfl⟩
abbrev bxFl (x : Fld) (A : Option Addr) (c : Nat) : Obj := .cells #[.string x.f.name, .int .i64 x.f.kind, .slice A x.en.length c, .int .i64 x.y.k, .int .i64 x.y.i, .bool x.y.b, .string x.y.s, .float .f64 x.y.n] 55
theorem Fdp_new (w : World) (x : Fld) (A : Option Addr) (c : Nat) : Fdp (w.alloc (bxFl x A c)) ⟨w.heap.size, 0, none⟩ x.f.name x.f.kind A x.en.length c x.y := by
  have h := heap_alloc_new w (bxFl x A c)
  exact ⟨(cell_of_row _ _ 0 _ _ (0, 0) h).trans rfl, (cell_of_row _ _ 1 _ _ (0, 0) h).trans rfl, (cell_of_row _ _ 2 _ _ (0, 0) h).trans rfl, (cell_of_row _ _ 3 _ _ (0, 0) h).trans rfl, (cell_of_row _ _ 4 _ _ (0, 0) h).trans rfl, (cell_of_row _ _ 5 _ _ (0, 0) h).trans rfl, (cell_of_row _ _ 6 _ _ (0, 0) h).trans rfl, (cell_of_row _ _ 7 _ _ (0, 0) h).trans rfl⟩
theorem al_lt (w : World) (o : Obj) : w.heap.size < (w.alloc o).heap.size := by simp
set_option maxHeartbeats 1000000 in
theorem rightField_any (x : Fld) (A : Option Addr) (c : Nat) (w : World) (h : Ss w (.slice A x.en.length c) x.en) : Calls Tryz.prog 71 #[agFl x A c] w (VMk (.bool (fieldR x)) w) := by
  have HN := Lib.hid (fun W => isName_any x.f.name W)
  have HE := Lib.hid (fun W (hb : Below w.heap.size w W) => rightEnum_any x A c W (h.below hb (Nat.le_refl _)))
  have HF := Lib.hid (fun W (hb : Below w.heap.size w W) => Fits_val x.y x.f.name x.f.kind (.slice A x.en.length c) x.y x.en W (h.below hb (Nat.le_refl _)))
  have HK := Lib.hid (fun W (hb : Below (w.alloc (bxFl x A c)).heap.size (w.alloc (bxFl x A c)) W) => (Fdp_new w x A c).below hb (al_lt w _))
  have HB := Lib.hid (alloc1 w (bxFl x A c))
  have hsf := fun (w : World) (a : Addr) (m : Mode) (b : Nat) => run_store Tryz.prog w a (.float .f64 b) m rfl
  unfold fieldR
  clear h
  generalize nameB x.f.name = b1 at *
  generalize enumR x = b2 at *
  generalize fitsV x.y x.f.kind x.en = z at *
  go_enter Tryz.func71, Tryz.ntmps71
  rcases b1 with _ | _ <;> rcases b2 with _ | _
  all_goals
    go_wp2_with (first | fail | (go_at_call 30; refine (HN.out _).mono ?_; rintro e w1 ⟨rfl, rfl⟩) | (go_at_call 120; refine (HE.out _ HB.out).mono ?_; rintro e w1 ⟨rfl, hb1⟩; obtain ⟨q0, q1, q2, q3, q4, q5, q6, q7⟩ := HK.out _ hb1) | (go_at_call 121; refine (HF.out _ (bel2 HB.out hb1)).mono ?_; rintro e w2 ⟨rfl, hb2⟩))
    go_ret
    first | exact ⟨ret_bool (by simp), alloc1 w _⟩ | exact ⟨ret_bool (by simp), bel2 (alloc1 w _) hb1⟩ | exact ⟨ret_bool (by simp), bel2 (bel2 (alloc1 w _) hb1) hb2⟩
theorem clo_Effect (p : Nat) (nm : ByteArray) (x : Eff) (A : Option Addr) (c : Nat) (w : World) (h : w.cell? ⟨p, 0, none⟩ = some (.string nm)) :
    Calls Tryz.prog 210 #[agEf x A c, .pointer (some ⟨p, 0, none⟩)] w (VMk (.bool (x.field.toList == nm.toList)) w) := by
  have hp : p < w.heap.size := World.block_lt_of_cell? w _ h
  generalize hb : (x.field.toList == nm.toList) = b
  have hne : ¬ w.heap.size = p := by omega
  go_enter Tryz.func210, Tryz.ntmps210
  go_wp2
  go_ret
  exact ⟨rfl, (Below.refl _ _).alloc (Nat.le_refl _) _⟩
theorem first_Effect (nm : ByteArray) : ∀ (l : List Eff) (i : Nat), firstB (fun x => x.field.toList == nm.toList) l i = placeN nm (l.map Eff.field) i
  | [], _ => rfl
  | x :: l, i => by
    rw [firstB, List.map_cons, placeN, first_Effect nm l (i + 1)]
set_option maxHeartbeats 1000000 in
theorem effectOn_any (A : Option Addr) (c : Nat) (l : List Eff) (nm : ByteArray) (w : World) (h : EffK w A c l) :
    Calls Tryz.prog 174 #[.slice A l.length c, .string nm] w (VMk (.int .i64 (placeN nm (l.map Eff.field) 0)) w) := by
  have hb2 := alloc1 w (.cells #[.string nm] 9)
  have hcell : (w.alloc (.cells #[.string nm] 9)).cell? ⟨w.heap.size, 0, none⟩ = some (.string nm) := (cell_of_row _ _ 0 _ _ (0, 0) (heap_alloc_new w _)).trans rfl
  have hi := idx_Effect (fun x => x.field.toList == nm.toList) w.heap.size A c l _ (EffK.below h hb2) (fun x _ A c W hW _ => clo_Effect w.heap.size nm x A c W (keepc hW (World.block_lt_of_cell? _ _ hcell) hcell))
  rw [first_Effect] at hi
  have HI := Lib.hid hi
  have HB := Lib.hid hb2
  clear hi hb2 hcell h
  go_enter Tryz.func174, Tryz.ntmps174
  go_wp2_with (go_at_call 209; refine HI.out.mono ?_; rintro e w1 ⟨rfl, hb1⟩)
  go_ret
  exact ⟨rfl, HB.out.trans (hb1.mono HB.out.size)⟩
/-- the closure that tells where the first effect on that field stands -/
theorem clo1_Effect (p : Nat) (EA : Option Addr) (ec : Nat) (l : List Eff) (x : Eff) (A : Option Addr) (c : Nat) (w : World) (h0 : w.cell? ⟨p, 0, none⟩ = some (.slice EA l.length ec)) (h : EffK w EA ec l) :
    Calls Tryz.prog 173 #[agEf x A c, .pointer (some ⟨p, 0, none⟩)] w (VMk (.int .i64 (placeN x.field (l.map Eff.field) 0)) w) := by
  have hp : p < w.heap.size := World.block_lt_of_cell? w _ h0
  have hne : ¬ w.heap.size = p := by omega
  have HC := Lib.hid (fun o => effectOn_any EA ec l x.field (w.alloc o) (EffK.below h (alloc1 w o)))
  clear h
  generalize placeN x.field (l.map Eff.field) 0 = r at *
  go_enter Tryz.func173, Tryz.ntmps173
  go_wp2_with (go_at_call 174; refine (HC.out _).mono ?_; rintro e w1 ⟨rfl, hb1⟩)
  go_ret
  exact ⟨rfl, bel2 (alloc1 w _) hb1⟩
set_option maxHeartbeats 1000000 in
theorem tells_any (e : Ex) (A : Option Addr) (c : Nat) (ct : Ctr) (FA : Option Addr) (fc : Nat) (SA : Option Addr) (sc : Nat) (MA : Option Addr) (mc : Nat) (kind : Int) (w : World) (hx : ExE w A c e) (h : CtK w ct FA fc SA sc MA mc) :
    Calls Tryz.prog 127 #[agX e.op A e.kids.length c e.name e.val, agC ct.name FA ct.fs.length fc SA ct.ss.length sc MA ct.ms.length mc, .int .i64 kind] w (VMk (.bool (tellsR e (ct.fs.map Fld.f) kind)) w) := by
  obtain ⟨D, hx⟩ := hx
  have hc := (fun o1 o2 => eCheck_any FA fc (ct.fs.map Fld.f) D e A c ((w.alloc o1).alloc o2) (hx.below (bel2 (alloc1 w o1) (alloc1 _ o2)) (Nat.le_refl _)) ((h.below (bel2 (alloc1 w o1) (alloc1 _ o2))).f.fdk))
  unfold tellsR
  rw [List.length_map] at hc
  generalize checkX e (ct.fs.map Fld.f) = q at *
  obtain ⟨k, x⟩ := q
  have HC := Lib.hid hc
  clear hc hx h
  have hsf := fun (w : World) (a : Addr) (m : Mode) (b : Nat) => run_store Tryz.prog w a (.float .f64 b) m rfl
  go_enter Tryz.func127, Tryz.ntmps127
  by_cases h0 : x = 0
  · have hz : (x == 0) = true := by rw [h0]; rfl
    clear h0
    go_wp2_with (go_at_call 64; refine (HC.out _ _).mono ?_; rintro e w1 ⟨rfl, hb1⟩)
    go_ret
    exact ⟨ret_bool (by simp [hz]), bel2 (bel2 (alloc1 w _) (alloc1 _ _)) hb1⟩
  · have hz : (x == 0) = false := by simpa using h0
    clear h0
    go_wp2_with (go_at_call 64; refine (HC.out _ _).mono ?_; rintro e w1 ⟨rfl, hb1⟩)
    go_ret
    exact ⟨ret_bool (by simp [hz]), bel2 (bel2 (alloc1 w _) (alloc1 _ _)) hb1⟩
end Go.Proofs.YthgdnpcfdgimlabGreat

/- Layer 6: lists behind their counts, by the program. (Made by gen/gencput.py.) -/
namespace Go.Proofs.YthgdnpcfdgimlabGreat
open Go.RowKit
set_option linter.unusedVariables false
set_option linter.unusedSimpArgs false
set_option maxRecDepth 20000

set_option maxHeartbeats 2000000 in
theorem putL_Str (f : ByteArray → List UInt8) (A : Option Addr) (cc : Nat) (l : List ByteArray) (w : World) (hf : Ss w (.slice A l.length cc) l) (hn : l.length ≤ 1000) (hb : (listB f l).length ≤ 10000000)
    (hcall : ∀ x ∈ l, ∀ W, Calls Tryz.prog 47 #[.string x] W (PutsV W (f x))) :
    Calls Tryz.prog 88 #[.slice A l.length cc, .func (Fn.func 47) #[] #[]] w (Puts w (listB f l)) := by
  obtain ⟨i0, hi, hz0, hz1, hz2⟩ := info_parts u8info
  obtain ⟨A', c', he, hm, hx⟩ := hf.open
  injection he with e1 e2 e3
  subst e1 e3
  unfold maxLen at hm
  clear e2
  have hlen : l.length ≤ 9223372036854775807 := by omega
  have HP := Lib.hid hcall
  have HX := Lib.hid hx
  have hq : Calls Tryz.prog 86 #[.slice none 0 0, .int .i64 l.length] w (Puts w (be 4 l.length)) := by
    have h := PutCount_any (.slice none 0 0) [] l.length w (Bs.nil w) (by simp) (by omega) (by omega)
    rwa [capC_of hn] at h
  have HQ := Lib.hid hq
  have ht : ∀ k (hk : k < l.length), be 4 l.length ++ (l.take (k + 1)).flatMap f = be 4 l.length ++ (l.take k).flatMap f ++ f l[k] := fun k hk => by
    rw [List.take_succ_eq_append_getElem hk, List.flatMap_append, List.append_assoc]; simp
  have htl : ∀ k, (be 4 l.length ++ (l.take k).flatMap f).length ≤ 10000000 := fun k => by
    have h : l.flatMap f = (l.take k).flatMap f ++ (l.drop k).flatMap f := by rw [← List.flatMap_append, List.take_append_drop]
    unfold listB at hb
    rw [h, List.length_append, List.length_append] at hb
    rw [List.length_append]; omega
  have hend : be 4 l.length ++ (l.take l.length).flatMap f = listB f l := by rw [List.take_length]; rfl
  have h00 : be 4 l.length ++ (l.take 0).flatMap f = be 4 l.length := by simp
  have HT := Lib.hid ht
  have HTL := Lib.hid htl
  have HEND := Lib.hid hend
  have H00 := Lib.hid h00
  clear hcall hx hq ht htl hend hb hn hm h00
  try clear hf
  generalize be 4 l.length = b4 at *
  have hsf := fun (w : World) (a : Addr) (m : Mode) (b : Nat) => run_store Tryz.prog w a (.float .f64 b) m rfl
  go_enter Tryz.func88, Tryz.ntmps88
  go_wp2_with fail
  refine HQ.out.mono ?_
  rintro _ w1 ⟨v1, rfl, ho1, hb1⟩
  have HO1 := Lib.hid ho1
  have HB1 := Lib.hid hb1
  clear ho1 hb1 HQ
  go_wp2
  go_loopw [5, 13] (fun b i wr => ∃ k : Nat, k ≤ l.length ∧ i = .int .i64 k ∧ wr.ownsRow w.heap.size 5 1 b (b4 ++ (l.take k).flatMap f).length ((b4 ++ (l.take k).flatMap f).map bc) ∧ Below w.heap.size w wr) (fun _ i _ => l.length - (intOf i).toNat)
  case atStart => exact ⟨0, Nat.zero_le _, rfl, by rw [H00.out]; exact HO1.out, HB1.out⟩
  case round =>
    obtain ⟨k, hk, rfl, hown, hb⟩ := hrel
    have HO := Lib.hid hown
    have HB := Lib.hid hb
    clear hown hb HO1 HB1
    by_cases hlt : k < l.length
    · have hltI : (k : Int) < (l.length : Int) := by omega
      obtain ⟨ad, rfl, hbl, hcell⟩ := HX.out k hlt
      have hcell2 := (HB.out.cell (p := ad.add k) (by rw [block_add]; exact hbl)).trans hcell
      have hmem := List.getElem_mem hlt
      have htk := HT.out k hlt
      have hle := HTL.out (k + 1)
      clear hcell
      generalize l[k] = x at *
      have HC := Lib.hid (fun W => HP.out x hmem W)
      rw [htk] at hle
      generalize f x = fx at *
      have HTT := Lib.hid htk
      have HLE := Lib.hid hle
      clear htk hle hmem
      go_wp2_with (first
        | fail
        | (go_at_call 47; refine (HC.out _).mono ?_; rintro e w2 ⟨v2, B2, rfl, hB2, ho2, hb2⟩; have HB2 := Lib.hid (bel2 (bel2 HB.out (Below.refl _ _)) hb2); have HOw := Lib.hid (own_belowX (own_belowX HO.out (Below.refl _ _)) hb2); have HV2 := Lib.hid (own_bs ho2); have hq1 : (b4 ++ (l.take k).flatMap f).length + (fx.map bc).length ≤ maxLen := (by have := HLE.out; rw [List.length_append] at this; rw [List.length_map]; unfold maxLen; omega); have hq2 : ((b4 ++ (l.take k).flatMap f).length + (fx.map bc).length) * 1 ≤ 140737488355328 := (by have := HLE.out; rw [List.length_append] at this; rw [List.length_map]; omega); have HQ2 := Lib.hid (And.intro hq1 hq2); clear ho2 hb2 hq1 hq2)
        | (at_builtin; refine wpList_append_rd _ rfl _ _ 34 rfl w.heap.size 5 i0 (.int .u8 0) 1 Tryz.underlying34 hi hz0 hz1 hz2 rfl _ _ _ rfl HOw.out _ _ rfl HV2.out (bc_one _) HQ2.out.1 HQ2.out.2 HB2.out.size ?_; intro v5 w5 hown5 hgr5; have HB5 := Lib.hid (HB2.out.grown hgr5 HB2.out.size (fun k hk => (HOw.out.lt k hk).1)); rw [← List.map_append, List.length_map, ← List.length_append, ← HTT.out] at hown5))
      go_roundw
      case rel => exact ⟨k + 1, by omega, by go_num, hown5, HB5.out⟩
      case measure => simp [intOf]; omega
    · obtain rfl : k = l.length := by omega
      have hltI : ¬ (l.length : Int) < (l.length : Int) := by omega
      go_wp2
      go_ret
      exact ⟨_, rfl, by rw [← HEND.out]; exact HO.out, HB.out⟩
set_option maxHeartbeats 2000000 in
theorem putL_Int (f : Int → List UInt8) (A : Option Addr) (cc : Nat) (l : List Int) (w : World) (hf : Is w (.slice A l.length cc) l) (hn : l.length ≤ 1000) (hb : (listB f l).length ≤ 10000000)
    (hcall : ∀ x ∈ l, ∀ W, Calls Tryz.prog 87 #[.int .i64 x] W (PutsV W (f x))) :
    Calls Tryz.prog 90 #[.slice A l.length cc, .func (Fn.func 87) #[] #[]] w (Puts w (listB f l)) := by
  obtain ⟨i0, hi, hz0, hz1, hz2⟩ := info_parts u8info
  obtain ⟨-, hm, hx⟩ := hf.open
  unfold maxLen at hm
  have hlen : l.length ≤ 9223372036854775807 := by omega
  have HP := Lib.hid hcall
  have HX := Lib.hid hx
  have hq : Calls Tryz.prog 86 #[.slice none 0 0, .int .i64 l.length] w (Puts w (be 4 l.length)) := by
    have h := PutCount_any (.slice none 0 0) [] l.length w (Bs.nil w) (by simp) (by omega) (by omega)
    rwa [capC_of hn] at h
  have HQ := Lib.hid hq
  have ht : ∀ k (hk : k < l.length), be 4 l.length ++ (l.take (k + 1)).flatMap f = be 4 l.length ++ (l.take k).flatMap f ++ f l[k] := fun k hk => by
    rw [List.take_succ_eq_append_getElem hk, List.flatMap_append, List.append_assoc]; simp
  have htl : ∀ k, (be 4 l.length ++ (l.take k).flatMap f).length ≤ 10000000 := fun k => by
    have h : l.flatMap f = (l.take k).flatMap f ++ (l.drop k).flatMap f := by rw [← List.flatMap_append, List.take_append_drop]
    unfold listB at hb
    rw [h, List.length_append, List.length_append] at hb
    rw [List.length_append]; omega
  have hend : be 4 l.length ++ (l.take l.length).flatMap f = listB f l := by rw [List.take_length]; rfl
  have h00 : be 4 l.length ++ (l.take 0).flatMap f = be 4 l.length := by simp
  have HT := Lib.hid ht
  have HTL := Lib.hid htl
  have HEND := Lib.hid hend
  have H00 := Lib.hid h00
  clear hcall hx hq ht htl hend hb hn hm h00
  try clear hf
  generalize be 4 l.length = b4 at *
  have hsf := fun (w : World) (a : Addr) (m : Mode) (b : Nat) => run_store Tryz.prog w a (.float .f64 b) m rfl
  go_enter Tryz.func90, Tryz.ntmps90
  go_wp2_with fail
  refine HQ.out.mono ?_
  rintro _ w1 ⟨v1, rfl, ho1, hb1⟩
  have HO1 := Lib.hid ho1
  have HB1 := Lib.hid hb1
  clear ho1 hb1 HQ
  go_wp2
  go_loopw [5, 13] (fun b i wr => ∃ k : Nat, k ≤ l.length ∧ i = .int .i64 k ∧ wr.ownsRow w.heap.size 5 1 b (b4 ++ (l.take k).flatMap f).length ((b4 ++ (l.take k).flatMap f).map bc) ∧ Below w.heap.size w wr) (fun _ i _ => l.length - (intOf i).toNat)
  case atStart => exact ⟨0, Nat.zero_le _, rfl, by rw [H00.out]; exact HO1.out, HB1.out⟩
  case round =>
    obtain ⟨k, hk, rfl, hown, hb⟩ := hrel
    have HO := Lib.hid hown
    have HB := Lib.hid hb
    clear hown hb HO1 HB1
    by_cases hlt : k < l.length
    · have hltI : (k : Int) < (l.length : Int) := by omega
      obtain ⟨ad, rfl, hbl, hcell⟩ := HX.out k hlt
      have hcell2 := (HB.out.cell (p := ad.add k) (by rw [block_add]; exact hbl)).trans hcell
      have hmem := List.getElem_mem hlt
      have htk := HT.out k hlt
      have hle := HTL.out (k + 1)
      clear hcell
      generalize l[k] = x at *
      have HC := Lib.hid (fun W => HP.out x hmem W)
      rw [htk] at hle
      generalize f x = fx at *
      have HTT := Lib.hid htk
      have HLE := Lib.hid hle
      clear htk hle hmem
      go_wp2_with (first
        | fail
        | (go_at_call 87; refine (HC.out _).mono ?_; rintro e w2 ⟨v2, B2, rfl, hB2, ho2, hb2⟩; have HB2 := Lib.hid (bel2 (bel2 HB.out (Below.refl _ _)) hb2); have HOw := Lib.hid (own_belowX (own_belowX HO.out (Below.refl _ _)) hb2); have HV2 := Lib.hid (own_bs ho2); have hq1 : (b4 ++ (l.take k).flatMap f).length + (fx.map bc).length ≤ maxLen := (by have := HLE.out; rw [List.length_append] at this; rw [List.length_map]; unfold maxLen; omega); have hq2 : ((b4 ++ (l.take k).flatMap f).length + (fx.map bc).length) * 1 ≤ 140737488355328 := (by have := HLE.out; rw [List.length_append] at this; rw [List.length_map]; omega); have HQ2 := Lib.hid (And.intro hq1 hq2); clear ho2 hb2 hq1 hq2)
        | (at_builtin; refine wpList_append_rd _ rfl _ _ 34 rfl w.heap.size 5 i0 (.int .u8 0) 1 Tryz.underlying34 hi hz0 hz1 hz2 rfl _ _ _ rfl HOw.out _ _ rfl HV2.out (bc_one _) HQ2.out.1 HQ2.out.2 HB2.out.size ?_; intro v5 w5 hown5 hgr5; have HB5 := Lib.hid (HB2.out.grown hgr5 HB2.out.size (fun k hk => (HOw.out.lt k hk).1)); rw [← List.map_append, List.length_map, ← List.length_append, ← HTT.out] at hown5))
      go_roundw
      case rel => exact ⟨k + 1, by omega, by go_num, hown5, HB5.out⟩
      case measure => simp [intOf]; omega
    · obtain rfl : k = l.length := by omega
      have hltI : ¬ (l.length : Int) < (l.length : Int) := by omega
      go_wp2
      go_ret
      exact ⟨_, rfl, by rw [← HEND.out]; exact HO.out, HB.out⟩
set_option maxHeartbeats 2000000 in
theorem putL_Field (f : Fld → List UInt8) (A : Option Addr) (cc : Nat) (l : List Fld) (w : World) (hf : FldK w A cc l) (hn : l.length ≤ 1000) (hb : (listB f l).length ≤ 10000000)
    (hcall : ∀ x ∈ l, ∀ (A : Option Addr) (c : Nat) W, Below w.heap.size w W → Ss W (.slice A x.en.length c) x.en → Calls Tryz.prog 49 #[agFl x A c] W (PutsV W (f x))) :
    Calls Tryz.prog 48 #[.slice A l.length cc, .func (Fn.func 49) #[] #[]] w (Puts w (listB f l)) := by
  obtain ⟨i0, hi, hz0, hz1, hz2⟩ := info_parts u8info
  obtain ⟨hc, hm, -, hx⟩ := hf
  unfold maxLen at hm
  have hlen : l.length ≤ 9223372036854775807 := by omega
  have HP := Lib.hid hcall
  have HX := Lib.hid hx
  have hq : Calls Tryz.prog 86 #[.slice none 0 0, .int .i64 l.length] w (Puts w (be 4 l.length)) := by
    have h := PutCount_any (.slice none 0 0) [] l.length w (Bs.nil w) (by simp) (by omega) (by omega)
    rwa [capC_of hn] at h
  have HQ := Lib.hid hq
  have ht : ∀ k (hk : k < l.length), be 4 l.length ++ (l.take (k + 1)).flatMap f = be 4 l.length ++ (l.take k).flatMap f ++ f l[k] := fun k hk => by
    rw [List.take_succ_eq_append_getElem hk, List.flatMap_append, List.append_assoc]; simp
  have htl : ∀ k, (be 4 l.length ++ (l.take k).flatMap f).length ≤ 10000000 := fun k => by
    have h : l.flatMap f = (l.take k).flatMap f ++ (l.drop k).flatMap f := by rw [← List.flatMap_append, List.take_append_drop]
    unfold listB at hb
    rw [h, List.length_append, List.length_append] at hb
    rw [List.length_append]; omega
  have hend : be 4 l.length ++ (l.take l.length).flatMap f = listB f l := by rw [List.take_length]; rfl
  have h00 : be 4 l.length ++ (l.take 0).flatMap f = be 4 l.length := by simp
  have HT := Lib.hid ht
  have HTL := Lib.hid htl
  have HEND := Lib.hid hend
  have H00 := Lib.hid h00
  clear hcall hx hq ht htl hend hb hn hm h00
  try clear hf
  generalize be 4 l.length = b4 at *
  have hsf := fun (w : World) (a : Addr) (m : Mode) (b : Nat) => run_store Tryz.prog w a (.float .f64 b) m rfl
  go_enter Tryz.func48, Tryz.ntmps48
  go_wp2_with fail
  refine HQ.out.mono ?_
  rintro _ w1 ⟨v1, rfl, ho1, hb1⟩
  have HO1 := Lib.hid ho1
  have HB1 := Lib.hid hb1
  clear ho1 hb1 HQ
  go_wp2
  go_loopw [5, 13] (fun b i wr => ∃ k : Nat, k ≤ l.length ∧ i = .int .i64 k ∧ wr.ownsRow w.heap.size 5 1 b (b4 ++ (l.take k).flatMap f).length ((b4 ++ (l.take k).flatMap f).map bc) ∧ Below w.heap.size w wr) (fun _ i _ => l.length - (intOf i).toNat)
  case atStart => exact ⟨0, Nat.zero_le _, rfl, by rw [H00.out]; exact HO1.out, HB1.out⟩
  case round =>
    obtain ⟨k, hk, rfl, hown, hb⟩ := hrel
    have HO := Lib.hid hown
    have HB := Lib.hid hb
    clear hown hb HO1 HB1
    by_cases hlt : k < l.length
    · have hltI : (k : Int) < (l.length : Int) := by omega
      obtain ⟨ad, rfl, hbl, hpart⟩ := HX.out k hlt
      have hpart2 := hpart.below HB.out (by rw [block_add]; exact hbl)
      have hmem := List.getElem_mem hlt
      have htk := HT.out k hlt
      have hle := HTL.out (k + 1)
      generalize l[k] = x at *
      obtain ⟨A, c, hq, hdeep⟩ := hpart2
      have q0 : wr.cell? (ad.add (k * 8)) = some (.string x.f.name) := hq.1
      have q1 : wr.cell? ⟨(ad.add (k * 8)).block, (ad.add (k * 8)).off + 1, none⟩ = some (.int .i64 x.f.kind) := hq.2.1
      have q2 : wr.cell? ⟨(ad.add (k * 8)).block, (ad.add (k * 8)).off + 2, none⟩ = some (.slice A x.en.length c) := hq.2.2.1
      have q3 : wr.cell? ⟨(ad.add (k * 8)).block, (ad.add (k * 8)).off + 3, none⟩ = some (.int .i64 x.y.k) := hq.2.2.2.1
      have q4 : wr.cell? ⟨(ad.add (k * 8)).block, (ad.add (k * 8)).off + 4, none⟩ = some (.int .i64 x.y.i) := hq.2.2.2.2.1
      have q5 : wr.cell? ⟨(ad.add (k * 8)).block, (ad.add (k * 8)).off + 5, none⟩ = some (.bool x.y.b) := hq.2.2.2.2.2.1
      have q6 : wr.cell? ⟨(ad.add (k * 8)).block, (ad.add (k * 8)).off + 6, none⟩ = some (.string x.y.s) := hq.2.2.2.2.2.2.1
      have q7 : wr.cell? ⟨(ad.add (k * 8)).block, (ad.add (k * 8)).off + 7, none⟩ = some (.float .f64 x.y.n) := hq.2.2.2.2.2.2.2
      have HC := Lib.hid (fun o => HP.out x hmem A c (wr.alloc o) (bel2 HB.out (alloc1 wr o)) (Rd.below hdeep (alloc1 wr o) (Nat.le_refl _)))
      clear hpart
      rw [htk] at hle
      generalize f x = fx at *
      have HTT := Lib.hid htk
      have HLE := Lib.hid hle
      clear htk hle hmem
      clear hq hdeep
      go_wp2_with (first
        | fail
        | (go_at_call 49; refine (HC.out _).mono ?_; rintro e w2 ⟨v2, B2, rfl, hB2, ho2, hb2⟩; have HB2 := Lib.hid (bel2 (bel2 HB.out (alloc1 wr _)) hb2); have HOw := Lib.hid (own_belowX (own_belowX HO.out (alloc1 wr _)) hb2); have HV2 := Lib.hid (own_bs ho2); have hq1 : (b4 ++ (l.take k).flatMap f).length + (fx.map bc).length ≤ maxLen := (by have := HLE.out; rw [List.length_append] at this; rw [List.length_map]; unfold maxLen; omega); have hq2 : ((b4 ++ (l.take k).flatMap f).length + (fx.map bc).length) * 1 ≤ 140737488355328 := (by have := HLE.out; rw [List.length_append] at this; rw [List.length_map]; omega); have HQ2 := Lib.hid (And.intro hq1 hq2); clear ho2 hb2 hq1 hq2)
        | (at_builtin; refine wpList_append_rd _ rfl _ _ 34 rfl w.heap.size 5 i0 (.int .u8 0) 1 Tryz.underlying34 hi hz0 hz1 hz2 rfl _ _ _ rfl HOw.out _ _ rfl HV2.out (bc_one _) HQ2.out.1 HQ2.out.2 HB2.out.size ?_; intro v5 w5 hown5 hgr5; have HB5 := Lib.hid (HB2.out.grown hgr5 HB2.out.size (fun k hk => (HOw.out.lt k hk).1)); rw [← List.map_append, List.length_map, ← List.length_append, ← HTT.out] at hown5))
      go_roundw
      case rel => exact ⟨k + 1, by omega, by go_num, hown5, HB5.out⟩
      case measure => simp [intOf]; omega
    · obtain rfl : k = l.length := by omega
      have hltI : ¬ (l.length : Int) < (l.length : Int) := by omega
      go_wp2
      go_ret
      exact ⟨_, rfl, by rw [← HEND.out]; exact HO.out, HB.out⟩
set_option maxHeartbeats 2000000 in
theorem putL_Stage (f : Stg → List UInt8) (A : Option Addr) (cc : Nat) (l : List Stg) (w : World) (hf : StgK w A cc l) (hn : l.length ≤ 1000) (hb : (listB f l).length ≤ 10000000)
    (hcall : ∀ x ∈ l, ∀ (A : Option Addr) (c : Nat) W, Below w.heap.size w W → Is W (.slice A x.orgs.length c) x.orgs → Calls Tryz.prog 51 #[agSt x A c] W (PutsV W (f x))) :
    Calls Tryz.prog 50 #[.slice A l.length cc, .func (Fn.func 51) #[] #[]] w (Puts w (listB f l)) := by
  obtain ⟨i0, hi, hz0, hz1, hz2⟩ := info_parts u8info
  obtain ⟨hc, hm, -, hx⟩ := hf
  unfold maxLen at hm
  have hlen : l.length ≤ 9223372036854775807 := by omega
  have HP := Lib.hid hcall
  have HX := Lib.hid hx
  have hq : Calls Tryz.prog 86 #[.slice none 0 0, .int .i64 l.length] w (Puts w (be 4 l.length)) := by
    have h := PutCount_any (.slice none 0 0) [] l.length w (Bs.nil w) (by simp) (by omega) (by omega)
    rwa [capC_of hn] at h
  have HQ := Lib.hid hq
  have ht : ∀ k (hk : k < l.length), be 4 l.length ++ (l.take (k + 1)).flatMap f = be 4 l.length ++ (l.take k).flatMap f ++ f l[k] := fun k hk => by
    rw [List.take_succ_eq_append_getElem hk, List.flatMap_append, List.append_assoc]; simp
  have htl : ∀ k, (be 4 l.length ++ (l.take k).flatMap f).length ≤ 10000000 := fun k => by
    have h : l.flatMap f = (l.take k).flatMap f ++ (l.drop k).flatMap f := by rw [← List.flatMap_append, List.take_append_drop]
    unfold listB at hb
    rw [h, List.length_append, List.length_append] at hb
    rw [List.length_append]; omega
  have hend : be 4 l.length ++ (l.take l.length).flatMap f = listB f l := by rw [List.take_length]; rfl
  have h00 : be 4 l.length ++ (l.take 0).flatMap f = be 4 l.length := by simp
  have HT := Lib.hid ht
  have HTL := Lib.hid htl
  have HEND := Lib.hid hend
  have H00 := Lib.hid h00
  clear hcall hx hq ht htl hend hb hn hm h00
  try clear hf
  generalize be 4 l.length = b4 at *
  have hsf := fun (w : World) (a : Addr) (m : Mode) (b : Nat) => run_store Tryz.prog w a (.float .f64 b) m rfl
  go_enter Tryz.func50, Tryz.ntmps50
  go_wp2_with fail
  refine HQ.out.mono ?_
  rintro _ w1 ⟨v1, rfl, ho1, hb1⟩
  have HO1 := Lib.hid ho1
  have HB1 := Lib.hid hb1
  clear ho1 hb1 HQ
  go_wp2
  go_loopw [5, 13] (fun b i wr => ∃ k : Nat, k ≤ l.length ∧ i = .int .i64 k ∧ wr.ownsRow w.heap.size 5 1 b (b4 ++ (l.take k).flatMap f).length ((b4 ++ (l.take k).flatMap f).map bc) ∧ Below w.heap.size w wr) (fun _ i _ => l.length - (intOf i).toNat)
  case atStart => exact ⟨0, Nat.zero_le _, rfl, by rw [H00.out]; exact HO1.out, HB1.out⟩
  case round =>
    obtain ⟨k, hk, rfl, hown, hb⟩ := hrel
    have HO := Lib.hid hown
    have HB := Lib.hid hb
    clear hown hb HO1 HB1
    by_cases hlt : k < l.length
    · have hltI : (k : Int) < (l.length : Int) := by omega
      obtain ⟨ad, rfl, hbl, hpart⟩ := HX.out k hlt
      have hpart2 := hpart.below HB.out (by rw [block_add]; exact hbl)
      have hmem := List.getElem_mem hlt
      have htk := HT.out k hlt
      have hle := HTL.out (k + 1)
      generalize l[k] = x at *
      obtain ⟨A, c, h0, h1, h2, hdeep⟩ := hpart2
      have q0 : wr.cell? (ad.add (k * 3)) = some (.string x.name) := h0
      have q1 : wr.cell? ⟨(ad.add (k * 3)).block, (ad.add (k * 3)).off + 1, none⟩ = some (.int .i64 x.need) := h1
      have q2 : wr.cell? ⟨(ad.add (k * 3)).block, (ad.add (k * 3)).off + 2, none⟩ = some (.slice A x.orgs.length c) := h2
      have HC := Lib.hid (fun o => HP.out x hmem A c (wr.alloc o) (bel2 HB.out (alloc1 wr o)) (Rd.below hdeep (alloc1 wr o) (Nat.le_refl _)))
      clear hpart
      rw [htk] at hle
      generalize f x = fx at *
      have HTT := Lib.hid htk
      have HLE := Lib.hid hle
      clear htk hle hmem
      clear hdeep
      go_wp2_with (first
        | fail
        | (go_at_call 51; refine (HC.out _).mono ?_; rintro e w2 ⟨v2, B2, rfl, hB2, ho2, hb2⟩; have HB2 := Lib.hid (bel2 (bel2 HB.out (alloc1 wr _)) hb2); have HOw := Lib.hid (own_belowX (own_belowX HO.out (alloc1 wr _)) hb2); have HV2 := Lib.hid (own_bs ho2); have hq1 : (b4 ++ (l.take k).flatMap f).length + (fx.map bc).length ≤ maxLen := (by have := HLE.out; rw [List.length_append] at this; rw [List.length_map]; unfold maxLen; omega); have hq2 : ((b4 ++ (l.take k).flatMap f).length + (fx.map bc).length) * 1 ≤ 140737488355328 := (by have := HLE.out; rw [List.length_append] at this; rw [List.length_map]; omega); have HQ2 := Lib.hid (And.intro hq1 hq2); clear ho2 hb2 hq1 hq2)
        | (at_builtin; refine wpList_append_rd _ rfl _ _ 34 rfl w.heap.size 5 i0 (.int .u8 0) 1 Tryz.underlying34 hi hz0 hz1 hz2 rfl _ _ _ rfl HOw.out _ _ rfl HV2.out (bc_one _) HQ2.out.1 HQ2.out.2 HB2.out.size ?_; intro v5 w5 hown5 hgr5; have HB5 := Lib.hid (HB2.out.grown hgr5 HB2.out.size (fun k hk => (HOw.out.lt k hk).1)); rw [← List.map_append, List.length_map, ← List.length_append, ← HTT.out] at hown5))
      go_roundw
      case rel => exact ⟨k + 1, by omega, by go_num, hown5, HB5.out⟩
      case measure => simp [intOf]; omega
    · obtain rfl : k = l.length := by omega
      have hltI : ¬ (l.length : Int) < (l.length : Int) := by omega
      go_wp2
      go_ret
      exact ⟨_, rfl, by rw [← HEND.out]; exact HO.out, HB.out⟩
set_option maxHeartbeats 2000000 in
theorem putL_Effect (f : Eff → List UInt8) (A : Option Addr) (cc : Nat) (l : List Eff) (w : World) (hf : EffK w A cc l) (hn : l.length ≤ 1000) (hb : (listB f l).length ≤ 10000000)
    (hcall : ∀ x ∈ l, ∀ (A : Option Addr) (c : Nat) W, Below w.heap.size w W → ExE W A c x.e → Calls Tryz.prog 93 #[agEf x A c] W (PutsV W (f x))) :
    Calls Tryz.prog 92 #[.slice A l.length cc, .func (Fn.func 93) #[] #[]] w (Puts w (listB f l)) := by
  obtain ⟨i0, hi, hz0, hz1, hz2⟩ := info_parts u8info
  obtain ⟨hc, hm, -, hx⟩ := hf
  unfold maxLen at hm
  have hlen : l.length ≤ 9223372036854775807 := by omega
  have HP := Lib.hid hcall
  have HX := Lib.hid hx
  have hq : Calls Tryz.prog 86 #[.slice none 0 0, .int .i64 l.length] w (Puts w (be 4 l.length)) := by
    have h := PutCount_any (.slice none 0 0) [] l.length w (Bs.nil w) (by simp) (by omega) (by omega)
    rwa [capC_of hn] at h
  have HQ := Lib.hid hq
  have ht : ∀ k (hk : k < l.length), be 4 l.length ++ (l.take (k + 1)).flatMap f = be 4 l.length ++ (l.take k).flatMap f ++ f l[k] := fun k hk => by
    rw [List.take_succ_eq_append_getElem hk, List.flatMap_append, List.append_assoc]; simp
  have htl : ∀ k, (be 4 l.length ++ (l.take k).flatMap f).length ≤ 10000000 := fun k => by
    have h : l.flatMap f = (l.take k).flatMap f ++ (l.drop k).flatMap f := by rw [← List.flatMap_append, List.take_append_drop]
    unfold listB at hb
    rw [h, List.length_append, List.length_append] at hb
    rw [List.length_append]; omega
  have hend : be 4 l.length ++ (l.take l.length).flatMap f = listB f l := by rw [List.take_length]; rfl
  have h00 : be 4 l.length ++ (l.take 0).flatMap f = be 4 l.length := by simp
  have HT := Lib.hid ht
  have HTL := Lib.hid htl
  have HEND := Lib.hid hend
  have H00 := Lib.hid h00
  clear hcall hx hq ht htl hend hb hn hm h00
  try clear hf
  generalize be 4 l.length = b4 at *
  have hsf := fun (w : World) (a : Addr) (m : Mode) (b : Nat) => run_store Tryz.prog w a (.float .f64 b) m rfl
  go_enter Tryz.func92, Tryz.ntmps92
  go_wp2_with fail
  refine HQ.out.mono ?_
  rintro _ w1 ⟨v1, rfl, ho1, hb1⟩
  have HO1 := Lib.hid ho1
  have HB1 := Lib.hid hb1
  clear ho1 hb1 HQ
  go_wp2
  go_loopw [5, 13] (fun b i wr => ∃ k : Nat, k ≤ l.length ∧ i = .int .i64 k ∧ wr.ownsRow w.heap.size 5 1 b (b4 ++ (l.take k).flatMap f).length ((b4 ++ (l.take k).flatMap f).map bc) ∧ Below w.heap.size w wr) (fun _ i _ => l.length - (intOf i).toNat)
  case atStart => exact ⟨0, Nat.zero_le _, rfl, by rw [H00.out]; exact HO1.out, HB1.out⟩
  case round =>
    obtain ⟨k, hk, rfl, hown, hb⟩ := hrel
    have HO := Lib.hid hown
    have HB := Lib.hid hb
    clear hown hb HO1 HB1
    by_cases hlt : k < l.length
    · have hltI : (k : Int) < (l.length : Int) := by omega
      obtain ⟨ad, rfl, hbl, hpart⟩ := HX.out k hlt
      have hpart2 := hpart.below HB.out (by rw [block_add]; exact hbl)
      have hmem := List.getElem_mem hlt
      have htk := HT.out k hlt
      have hle := HTL.out (k + 1)
      generalize l[k] = x at *
      obtain ⟨A, c, h0, hk, hdeep⟩ := hpart2
      have q0 : wr.cell? (ad.add (k * 9)) = some (.string x.field) := h0
      have q1 : wr.cell? ⟨(ad.add (k * 9)).block, (ad.add (k * 9)).off + 1, none⟩ = some (.int .i64 x.e.op) := hk.1
      have q2 : wr.cell? ⟨(ad.add (k * 9)).block, (ad.add (k * 9)).off + 2, none⟩ = some (.slice A x.e.kids.length c) := hk.2.1
      have q3 : wr.cell? ⟨(ad.add (k * 9)).block, (ad.add (k * 9)).off + 3, none⟩ = some (.string x.e.name) := hk.2.2.1
      have q4 : wr.cell? ⟨(ad.add (k * 9)).block, (ad.add (k * 9)).off + 4, none⟩ = some (.int .i64 x.e.val.k) := hk.2.2.2.1
      have q5 : wr.cell? ⟨(ad.add (k * 9)).block, (ad.add (k * 9)).off + 5, none⟩ = some (.int .i64 x.e.val.i) := hk.2.2.2.2.1
      have q6 : wr.cell? ⟨(ad.add (k * 9)).block, (ad.add (k * 9)).off + 6, none⟩ = some (.bool x.e.val.b) := hk.2.2.2.2.2.1
      have q7 : wr.cell? ⟨(ad.add (k * 9)).block, (ad.add (k * 9)).off + 7, none⟩ = some (.string x.e.val.s) := hk.2.2.2.2.2.2.1
      have q8 : wr.cell? ⟨(ad.add (k * 9)).block, (ad.add (k * 9)).off + 8, none⟩ = some (.float .f64 x.e.val.n) := hk.2.2.2.2.2.2.2
      have HC := Lib.hid (fun o => HP.out x hmem A c (wr.alloc o) (bel2 HB.out (alloc1 wr o)) (hdeep.below (alloc1 wr o)))
      clear hpart
      rw [htk] at hle
      generalize f x = fx at *
      have HTT := Lib.hid htk
      have HLE := Lib.hid hle
      clear htk hle hmem
      clear hdeep
      go_wp2_with (first
        | fail
        | (go_at_call 93; refine (HC.out _).mono ?_; rintro e w2 ⟨v2, B2, rfl, hB2, ho2, hb2⟩; have HB2 := Lib.hid (bel2 (bel2 HB.out (alloc1 wr _)) hb2); have HOw := Lib.hid (own_belowX (own_belowX HO.out (alloc1 wr _)) hb2); have HV2 := Lib.hid (own_bs ho2); have hq1 : (b4 ++ (l.take k).flatMap f).length + (fx.map bc).length ≤ maxLen := (by have := HLE.out; rw [List.length_append] at this; rw [List.length_map]; unfold maxLen; omega); have hq2 : ((b4 ++ (l.take k).flatMap f).length + (fx.map bc).length) * 1 ≤ 140737488355328 := (by have := HLE.out; rw [List.length_append] at this; rw [List.length_map]; omega); have HQ2 := Lib.hid (And.intro hq1 hq2); clear ho2 hb2 hq1 hq2)
        | (at_builtin; refine wpList_append_rd _ rfl _ _ 34 rfl w.heap.size 5 i0 (.int .u8 0) 1 Tryz.underlying34 hi hz0 hz1 hz2 rfl _ _ _ rfl HOw.out _ _ rfl HV2.out (bc_one _) HQ2.out.1 HQ2.out.2 HB2.out.size ?_; intro v5 w5 hown5 hgr5; have HB5 := Lib.hid (HB2.out.grown hgr5 HB2.out.size (fun k hk => (HOw.out.lt k hk).1)); rw [← List.map_append, List.length_map, ← List.length_append, ← HTT.out] at hown5))
      go_roundw
      case rel => exact ⟨k + 1, by omega, by go_num, hown5, HB5.out⟩
      case measure => simp [intOf]; omega
    · obtain rfl : k = l.length := by omega
      have hltI : ¬ (l.length : Int) < (l.length : Int) := by omega
      go_wp2
      go_ret
      exact ⟨_, rfl, by rw [← HEND.out]; exact HO.out, HB.out⟩
set_option maxHeartbeats 2000000 in
theorem putL_Move (f : Mv → List UInt8) (A : Option Addr) (cc : Nat) (l : List Mv) (w : World) (hf : MvK w A cc l) (hn : l.length ≤ 1000) (hb : (listB f l).length ≤ 10000000)
    (hcall : ∀ x ∈ l, ∀ (A : Option Addr) (c : Nat) (EA : Option Addr) (ec : Nat) W, Below w.heap.size w W → (ExE W A c x.guard ∧ EffK W EA ec x.effs) → Calls Tryz.prog 53 #[agMv x A c EA ec] W (PutsV W (f x))) :
    Calls Tryz.prog 52 #[.slice A l.length cc, .func (Fn.func 53) #[] #[]] w (Puts w (listB f l)) := by
  obtain ⟨i0, hi, hz0, hz1, hz2⟩ := info_parts u8info
  obtain ⟨hc, hm, -, hx⟩ := hf
  unfold maxLen at hm
  have hlen : l.length ≤ 9223372036854775807 := by omega
  have HP := Lib.hid hcall
  have HX := Lib.hid hx
  have hq : Calls Tryz.prog 86 #[.slice none 0 0, .int .i64 l.length] w (Puts w (be 4 l.length)) := by
    have h := PutCount_any (.slice none 0 0) [] l.length w (Bs.nil w) (by simp) (by omega) (by omega)
    rwa [capC_of hn] at h
  have HQ := Lib.hid hq
  have ht : ∀ k (hk : k < l.length), be 4 l.length ++ (l.take (k + 1)).flatMap f = be 4 l.length ++ (l.take k).flatMap f ++ f l[k] := fun k hk => by
    rw [List.take_succ_eq_append_getElem hk, List.flatMap_append, List.append_assoc]; simp
  have htl : ∀ k, (be 4 l.length ++ (l.take k).flatMap f).length ≤ 10000000 := fun k => by
    have h : l.flatMap f = (l.take k).flatMap f ++ (l.drop k).flatMap f := by rw [← List.flatMap_append, List.take_append_drop]
    unfold listB at hb
    rw [h, List.length_append, List.length_append] at hb
    rw [List.length_append]; omega
  have hend : be 4 l.length ++ (l.take l.length).flatMap f = listB f l := by rw [List.take_length]; rfl
  have h00 : be 4 l.length ++ (l.take 0).flatMap f = be 4 l.length := by simp
  have HT := Lib.hid ht
  have HTL := Lib.hid htl
  have HEND := Lib.hid hend
  have H00 := Lib.hid h00
  clear hcall hx hq ht htl hend hb hn hm h00
  try clear hf
  generalize be 4 l.length = b4 at *
  have hsf := fun (w : World) (a : Addr) (m : Mode) (b : Nat) => run_store Tryz.prog w a (.float .f64 b) m rfl
  go_enter Tryz.func52, Tryz.ntmps52
  go_wp2_with fail
  refine HQ.out.mono ?_
  rintro _ w1 ⟨v1, rfl, ho1, hb1⟩
  have HO1 := Lib.hid ho1
  have HB1 := Lib.hid hb1
  clear ho1 hb1 HQ
  go_wp2
  go_loopw [5, 13] (fun b i wr => ∃ k : Nat, k ≤ l.length ∧ i = .int .i64 k ∧ wr.ownsRow w.heap.size 5 1 b (b4 ++ (l.take k).flatMap f).length ((b4 ++ (l.take k).flatMap f).map bc) ∧ Below w.heap.size w wr) (fun _ i _ => l.length - (intOf i).toNat)
  case atStart => exact ⟨0, Nat.zero_le _, rfl, by rw [H00.out]; exact HO1.out, HB1.out⟩
  case round =>
    obtain ⟨k, hk, rfl, hown, hb⟩ := hrel
    have HO := Lib.hid hown
    have HB := Lib.hid hb
    clear hown hb HO1 HB1
    by_cases hlt : k < l.length
    · have hltI : (k : Int) < (l.length : Int) := by omega
      obtain ⟨ad, rfl, hbl, hpart⟩ := HX.out k hlt
      have hpart2 := hpart.below HB.out (by rw [block_add]; exact hbl)
      have hmem := List.getElem_mem hlt
      have htk := HT.out k hlt
      have hle := HTL.out (k + 1)
      generalize l[k] = x at *
      obtain ⟨A, c, EA, ec, h0, h1, h2, hk, he, h11, h12, hek⟩ := hpart2
      have q0 : wr.cell? (ad.add (k * 13)) = some (.string x.name) := h0
      have q1 : wr.cell? ⟨(ad.add (k * 13)).block, (ad.add (k * 13)).off + 1, none⟩ = some (.int .i64 x.frm) := h1
      have q2 : wr.cell? ⟨(ad.add (k * 13)).block, (ad.add (k * 13)).off + 2, none⟩ = some (.int .i64 x.too) := h2
      have q3 : wr.cell? ⟨(ad.add (k * 13)).block, (ad.add (k * 13)).off + 3, none⟩ = some (.int .i64 x.guard.op) := hk.1
      have q4 : wr.cell? ⟨(ad.add (k * 13)).block, (ad.add (k * 13)).off + 4, none⟩ = some (.slice A x.guard.kids.length c) := hk.2.1
      have q5 : wr.cell? ⟨(ad.add (k * 13)).block, (ad.add (k * 13)).off + 5, none⟩ = some (.string x.guard.name) := hk.2.2.1
      have q6 : wr.cell? ⟨(ad.add (k * 13)).block, (ad.add (k * 13)).off + 6, none⟩ = some (.int .i64 x.guard.val.k) := hk.2.2.2.1
      have q7 : wr.cell? ⟨(ad.add (k * 13)).block, (ad.add (k * 13)).off + 7, none⟩ = some (.int .i64 x.guard.val.i) := hk.2.2.2.2.1
      have q8 : wr.cell? ⟨(ad.add (k * 13)).block, (ad.add (k * 13)).off + 8, none⟩ = some (.bool x.guard.val.b) := hk.2.2.2.2.2.1
      have q9 : wr.cell? ⟨(ad.add (k * 13)).block, (ad.add (k * 13)).off + 9, none⟩ = some (.string x.guard.val.s) := hk.2.2.2.2.2.2.1
      have q10 : wr.cell? ⟨(ad.add (k * 13)).block, (ad.add (k * 13)).off + 10, none⟩ = some (.float .f64 x.guard.val.n) := hk.2.2.2.2.2.2.2
      have q11 : wr.cell? ⟨(ad.add (k * 13)).block, (ad.add (k * 13)).off + 11, none⟩ = some (.slice EA x.effs.length ec) := h11
      have q12 : wr.cell? ⟨(ad.add (k * 13)).block, (ad.add (k * 13)).off + 12, none⟩ = some (.int .i64 x.org) := h12
      have HC := Lib.hid (fun o => HP.out x hmem A c EA ec (wr.alloc o) (bel2 HB.out (alloc1 wr o)) ⟨he.below (alloc1 wr o), EffK.below hek (alloc1 wr o)⟩)
      clear hpart
      rw [htk] at hle
      generalize f x = fx at *
      have HTT := Lib.hid htk
      have HLE := Lib.hid hle
      clear htk hle hmem
      clear he hek
      go_wp2_with (first
        | fail
        | (go_at_call 53; refine (HC.out _).mono ?_; rintro e w2 ⟨v2, B2, rfl, hB2, ho2, hb2⟩; have HB2 := Lib.hid (bel2 (bel2 HB.out (alloc1 wr _)) hb2); have HOw := Lib.hid (own_belowX (own_belowX HO.out (alloc1 wr _)) hb2); have HV2 := Lib.hid (own_bs ho2); have hq1 : (b4 ++ (l.take k).flatMap f).length + (fx.map bc).length ≤ maxLen := (by have := HLE.out; rw [List.length_append] at this; rw [List.length_map]; unfold maxLen; omega); have hq2 : ((b4 ++ (l.take k).flatMap f).length + (fx.map bc).length) * 1 ≤ 140737488355328 := (by have := HLE.out; rw [List.length_append] at this; rw [List.length_map]; omega); have HQ2 := Lib.hid (And.intro hq1 hq2); clear ho2 hb2 hq1 hq2)
        | (at_builtin; refine wpList_append_rd _ rfl _ _ 34 rfl w.heap.size 5 i0 (.int .u8 0) 1 Tryz.underlying34 hi hz0 hz1 hz2 rfl _ _ _ rfl HOw.out _ _ rfl HV2.out (bc_one _) HQ2.out.1 HQ2.out.2 HB2.out.size ?_; intro v5 w5 hown5 hgr5; have HB5 := Lib.hid (HB2.out.grown hgr5 HB2.out.size (fun k hk => (HOw.out.lt k hk).1)); rw [← List.map_append, List.length_map, ← List.length_append, ← HTT.out] at hown5))
      go_roundw
      case rel => exact ⟨k + 1, by omega, by go_num, hown5, HB5.out⟩
      case measure => simp [intOf]; omega
    · obtain rfl : k = l.length := by omega
      have hltI : ¬ (l.length : Int) < (l.length : Int) := by omega
      go_wp2
      go_ret
      exact ⟨_, rfl, by rw [← HEND.out]; exact HO.out, HB.out⟩
end Go.Proofs.YthgdnpcfdgimlabGreat

/- Layer 6: effects and moves by themselves, and all of them, by the program. (Made by gen/gencmv.py.) -/
namespace Go.Proofs.YthgdnpcfdgimlabGreat
open Go.RowKit
set_option linter.unusedVariables false
set_option linter.unusedSimpArgs false
set_option maxRecDepth 20000

/-- block b holds these cells -/
def BxA (w : World) (b : Nat) (cs : List Value) : Prop := b < w.heap.size ∧ ∀ (i : Nat) (x : Value), cs[i]? = some x → w.cell? ⟨b, i, none⟩ = some x
theorem BxA.below {w w' : World} {b : Nat} {cs : List Value} (h : BxA w b cs) (hb : Below w.heap.size w w') : BxA w' b cs := ⟨Nat.lt_of_lt_of_le h.1 hb.size, fun i x hx => keepc hb h.1 (h.2 i x hx)⟩
theorem BxA.new (w : World) (cs : List Value) (t : TypeId) : BxA (w.alloc (.cells cs.toArray t)) w.heap.size cs := ⟨by simp, fun i x hx => (cell_of_row _ _ i _ _ (0, 0) (heap_alloc_new w _)).trans (by simpa using hx)⟩
abbrev csC (nm : ByteArray) (FA : Option Addr) (fn fc : Nat) (SA : Option Addr) (sn sc : Nat) (MA : Option Addr) (mn mc : Nat) : List Value := [.string nm, .slice FA fn fc, .slice SA sn sc, .slice MA mn mc]
abbrev csEf (x : Eff) (A : Option Addr) (c : Nat) : List Value := [.string x.field, .int .i64 x.e.op, .slice A x.e.kids.length c, .string x.e.name, .int .i64 x.e.val.k, .int .i64 x.e.val.i, .bool x.e.val.b, .string x.e.val.s, .float .f64 x.e.val.n]
abbrev csMv (x : Mv) (A : Option Addr) (c : Nat) (EA : Option Addr) (ec : Nat) : List Value := [.string x.name, .int .i64 x.frm, .int .i64 x.too, .int .i64 x.guard.op, .slice A x.guard.kids.length c, .string x.guard.name, .int .i64 x.guard.val.k, .int .i64 x.guard.val.i, .bool x.guard.val.b, .string x.guard.val.s, .float .f64 x.guard.val.n, .slice EA x.effs.length ec, .int .i64 x.org]
theorem find_map (nm : ByteArray) (l : List Fld) : placeN nm (l.map fun x => x.f.name) 0 = findX nm (l.map Fld.f) 0 := by
  rw [findX_place, List.map_map]; rfl
theorem size1 (w : World) (o : Obj) : (w.alloc o).heap.size = w.heap.size + 1 := by simp
set_option maxHeartbeats 1000000 in
theorem rightEffect_any (x : Eff) (A : Option Addr) (c : Nat) (ct : Ctr) (FA : Option Addr) (fc : Nat) (SA : Option Addr) (sc : Nat) (MA : Option Addr) (mc : Nat) (w : World) (hx : ExE w A c x.e) (h : CtK w ct FA fc SA sc MA mc) :
    Calls Tryz.prog 177 #[agC ct.name FA ct.fs.length fc SA ct.ss.length sc MA ct.ms.length mc, agEf x A c] w (VMk (.bool (effR (ct.fs.map Fld.f) x)) w) := by
  have HB := Lib.hid (bel2 (alloc1 w (bxC ct.name FA ct.fs.length fc SA ct.ss.length sc MA ct.ms.length mc)) (alloc1 (w.alloc (bxC ct.name FA ct.fs.length fc SA ct.ss.length sc MA ct.ms.length mc)) (.cells (csEf x A c).toArray 65)))
  have HC := Lib.hid ((BxA.new w (csC ct.name FA ct.fs.length fc SA ct.ss.length sc MA ct.ms.length mc) 26).below (alloc1 (w.alloc (bxC ct.name FA ct.fs.length fc SA ct.ss.length sc MA ct.ms.length mc)) (.cells (csEf x A c).toArray 65)))
  have HE := Lib.hid (BxA.new (w.alloc (bxC ct.name FA ct.fs.length fc SA ct.ss.length sc MA ct.ms.length mc)) (csEf x A c) 65)
  have hf := cField_any ct FA fc SA sc MA mc x.field _ (h.below HB.out)
  have htl := fun k W (hb : Below w.heap.size w W) => tells_any x.e A c ct FA fc SA sc MA mc k W (hx.below hb) (h.below hb)
  rw [find_map] at hf
  have HFK := Lib.hid h.f
  have hge := placeN_ge x.field ((ct.fs.map Fld.f).map Fd.name) 0
  have hlt := placeN_lt x.field ((ct.fs.map Fld.f).map Fd.name) 0
  rw [← findX_place] at hge hlt
  rw [List.length_map, List.length_map] at hlt
  rw [size1] at HE
  unfold effR
  have hm := h.f.2.1
  unfold maxLen at hm
  clear h hx
  generalize findX x.field (ct.fs.map Fld.f) 0 = i at *
  have HF := Lib.hid hf
  have HT := Lib.hid htl
  clear hf htl
  have hsf := fun (w : World) (a : Addr) (m : Mode) (b : Nat) => run_store Tryz.prog w a (.float .f64 b) m rfl
  by_cases h0 : 0 ≤ i
  · obtain ⟨k, rfl⟩ := Int.eq_ofNat_of_zero_le h0
    have hk : k < ct.fs.length := by omega
    have hd : decide ((0 : Int) ≤ (k : Int)) = true := decide_eq_true h0
    have hkd : ((((ct.fs.map Fld.f)[((k : Int)).toNat]?).map Fd.kind).getD 0) = ct.fs[k].f.kind := by
      rw [Int.toNat_natCast, List.getElem?_map, List.getElem?_eq_getElem hk]; rfl
    rw [hkd, hd, Bool.true_and]
    have hki : (k : Int) < (ct.fs.length : Int) := by omega
    obtain ⟨ad, e1, e2, fp⟩ := HFK.out.2.2.2 k hk
    have HFP := Lib.hid fp
    clear hkd hge hlt fp
    generalize ct.fs[k] = y at *
    generalize hbv : tellsR x.e (ct.fs.map Fld.f) y.f.kind = b at *
    have HT2 := Lib.hid (fun W hb => (show Calls _ _ _ _ (VMk (.bool b) W) from hbv ▸ HT.out y.f.kind W hb))
    clear hbv HT HFK
    subst e1
    go_enter Tryz.func177, Tryz.ntmps177
    go_wp2_with (first | fail | (go_at_call 13; refine HF.out.mono ?_; rintro e w1 ⟨rfl, hb1⟩))
    have hS0 : ∀ W, Below w1.heap.size w1 W → (fun W => Below w1.heap.size w1 W ∧ W.cell? ⟨(ad.add (k * 8)).block, (ad.add (k * 8)).off + 1, none⟩ = some (.int .i64 y.f.kind) ∧ W.cell? ⟨w.heap.size, 0, none⟩ = some (.string ct.name) ∧ W.cell? ⟨w.heap.size, 1, none⟩ = some (.slice (some ad) ct.fs.length fc) ∧ W.cell? ⟨w.heap.size, 2, none⟩ = some (.slice SA ct.ss.length sc) ∧ W.cell? ⟨w.heap.size, 3, none⟩ = some (.slice MA ct.ms.length mc) ∧ W.cell? ⟨w.heap.size + 1, 0, none⟩ = some (.string x.field) ∧ W.cell? ⟨w.heap.size + 1, 1, none⟩ = some (.int .i64 x.e.op) ∧ W.cell? ⟨w.heap.size + 1, 2, none⟩ = some (.slice A x.e.kids.length c) ∧ W.cell? ⟨w.heap.size + 1, 3, none⟩ = some (.string x.e.name) ∧ W.cell? ⟨w.heap.size + 1, 4, none⟩ = some (.int .i64 x.e.val.k) ∧ W.cell? ⟨w.heap.size + 1, 5, none⟩ = some (.int .i64 x.e.val.i) ∧ W.cell? ⟨w.heap.size + 1, 6, none⟩ = some (.bool x.e.val.b) ∧ W.cell? ⟨w.heap.size + 1, 7, none⟩ = some (.string x.e.val.s) ∧ W.cell? ⟨w.heap.size + 1, 8, none⟩ = some (.float .f64 x.e.val.n)) W := fun W hW => by
      obtain ⟨PA, pc, hq, -⟩ := HFP.out.below (bel2 HB.out (bel2 hb1 hW)) (by rw [block_add]; exact e2)
      exact ⟨hW, hq.2.1, (HC.out.below (bel2 hb1 hW)).2 0 _ rfl, (HC.out.below (bel2 hb1 hW)).2 1 _ rfl, (HC.out.below (bel2 hb1 hW)).2 2 _ rfl, (HC.out.below (bel2 hb1 hW)).2 3 _ rfl, (HE.out.below (bel2 hb1 hW)).2 0 _ rfl, (HE.out.below (bel2 hb1 hW)).2 1 _ rfl, (HE.out.below (bel2 hb1 hW)).2 2 _ rfl, (HE.out.below (bel2 hb1 hW)).2 3 _ rfl, (HE.out.below (bel2 hb1 hW)).2 4 _ rfl, (HE.out.below (bel2 hb1 hW)).2 5 _ rfl, (HE.out.below (bel2 hb1 hW)).2 6 _ rfl, (HE.out.below (bel2 hb1 hW)).2 7 _ rfl, (HE.out.below (bel2 hb1 hW)).2 8 _ rfl⟩
    have HKP := Lib.hid hS0
    have HS0 := Lib.hid (hS0 w1.drew (Below.refl _ _).drew)
    have HB1 := Lib.hid (bel2 HB.out hb1)
    clear hS0 hb1
    go_region_held3 (fun W => Below w1.heap.size w1 W ∧ W.cell? ⟨(ad.add (k * 8)).block, (ad.add (k * 8)).off + 1, none⟩ = some (.int .i64 y.f.kind) ∧ W.cell? ⟨w.heap.size, 0, none⟩ = some (.string ct.name) ∧ W.cell? ⟨w.heap.size, 1, none⟩ = some (.slice (some ad) ct.fs.length fc) ∧ W.cell? ⟨w.heap.size, 2, none⟩ = some (.slice SA ct.ss.length sc) ∧ W.cell? ⟨w.heap.size, 3, none⟩ = some (.slice MA ct.ms.length mc) ∧ W.cell? ⟨w.heap.size + 1, 0, none⟩ = some (.string x.field) ∧ W.cell? ⟨w.heap.size + 1, 1, none⟩ = some (.int .i64 x.e.op) ∧ W.cell? ⟨w.heap.size + 1, 2, none⟩ = some (.slice A x.e.kids.length c) ∧ W.cell? ⟨w.heap.size + 1, 3, none⟩ = some (.string x.e.name) ∧ W.cell? ⟨w.heap.size + 1, 4, none⟩ = some (.int .i64 x.e.val.k) ∧ W.cell? ⟨w.heap.size + 1, 5, none⟩ = some (.int .i64 x.e.val.i) ∧ W.cell? ⟨w.heap.size + 1, 6, none⟩ = some (.bool x.e.val.b) ∧ W.cell? ⟨w.heap.size + 1, 7, none⟩ = some (.string x.e.val.s) ∧ W.cell? ⟨w.heap.size + 1, 8, none⟩ = some (.float .f64 x.e.val.n)) (first | exact HS0.out | exact HKP.out _ HB2.out) (first
      | (go_at_call 127; refine (HT2.out _ (bel2 HB1.out (Below.refl _ _).drew)).mono ?_; rintro e w2 ⟨rfl, hb2⟩; have HB2 := Lib.hid (bel2 (Below.refl w1.heap.size w1).drew hb2)))
    go_wp2
    go_ret
    exact ⟨ret_bool (by simp), bel2 HB1.out HB2.out⟩
  · have hd : decide ((0 : Int) ≤ i) = false := decide_eq_false h0
    rw [hd, Bool.false_and]
    have hneg : i < 0 := by omega
    clear h0 hge hlt
    go_enter Tryz.func177, Tryz.ntmps177
    go_wp2_with (first | fail | (go_at_call 13; refine HF.out.mono ?_; rintro e w1 ⟨rfl, hb1⟩))
    go_quiet (fail)
    go_wp2
    go_ret
    exact ⟨ret_bool (by first | (simp; done) | (simp; omega)), below_drewN (bel2 HB.out hb1) _⟩
/-- the closure that tells whether an effect is right -/
theorem clo2_Effect (p : Nat) (x : Eff) (A : Option Addr) (c : Nat) (ct : Ctr) (FA : Option Addr) (fc : Nat) (SA : Option Addr) (sc : Nat) (MA : Option Addr) (mc : Nat) (w : World) (hbx : BxA w p (csC ct.name FA ct.fs.length fc SA ct.ss.length sc MA ct.ms.length mc)) (hx : ExE w A c x.e) (h : CtK w ct FA fc SA sc MA mc) :
    Calls Tryz.prog 176 #[agEf x A c, .pointer (some ⟨p, 0, none⟩)] w (VMk (.bool (effR (ct.fs.map Fld.f) x)) w) := by
  have hp : p < w.heap.size := hbx.1
  have hne : ¬ w.heap.size = p := by omega
  have h0 := hbx.2 0 _ rfl
  have h1 := hbx.2 1 _ rfl
  have h2 := hbx.2 2 _ rfl
  have h3 := hbx.2 3 _ rfl
  have HC := Lib.hid (fun o => rightEffect_any x A c ct FA fc SA sc MA mc (w.alloc o) (hx.below (alloc1 w o)) (h.below (alloc1 w o)))
  clear h hx hbx
  generalize effR (ct.fs.map Fld.f) x = r at *
  have hsf := fun (w : World) (a : Addr) (m : Mode) (b : Nat) => run_store Tryz.prog w a (.float .f64 b) m rfl
  go_enter Tryz.func176, Tryz.ntmps176
  go_wp2_with (go_at_call 177; refine (HC.out _).mono ?_; rintro e w1 ⟨rfl, hb1⟩)
  go_ret
  exact ⟨rfl, bel2 (alloc1 w _) hb1⟩
set_option maxHeartbeats 1000000 in
theorem rightEffects_any (l : List Eff) (EA : Option Addr) (ec : Nat) (ct : Ctr) (FA : Option Addr) (fc : Nat) (SA : Option Addr) (sc : Nat) (MA : Option Addr) (mc : Nat) (w : World) (hl : EffK w EA ec l) (h : CtK w ct FA fc SA sc MA mc) :
    Calls Tryz.prog 128 #[agC ct.name FA ct.fs.length fc SA ct.ss.length sc MA ct.ms.length mc, .slice EA l.length ec] w (VMk (.bool (effsR (ct.fs.map Fld.f) l)) w) := by
  have hm := hl.2.1
  have hm1 := hl.1
  unfold maxLen at hm
  have hlen : l.length ≤ 9223372036854775807 := by omega
  have hb0 := (bel2 (alloc1 w (bxC ct.name FA ct.fs.length fc SA ct.ss.length sc MA ct.ms.length mc)) (alloc1 (w.alloc (bxC ct.name FA ct.fs.length fc SA ct.ss.length sc MA ct.ms.length mc)) (.cells #[.slice EA l.length ec] 59)))
  have hc := ((BxA.new w (csC ct.name FA ct.fs.length fc SA ct.ss.length sc MA ct.ms.length mc) 26).below (alloc1 (w.alloc (bxC ct.name FA ct.fs.length fc SA ct.ss.length sc MA ct.ms.length mc)) (.cells #[.slice EA l.length ec] 59)))
  have he := (BxA.new (w.alloc (bxC ct.name FA ct.fs.length fc SA ct.ss.length sc MA ct.ms.length mc)) [.slice EA l.length ec] 59)
  rw [size1] at he
  have ho := once_Effect (fun x => placeN x.field (l.map Eff.field) 0) (w.heap.size + 1) EA ec l _ (EffK.below hl hb0) (fun x hx A c W hW => clo1_Effect (w.heap.size + 1) EA ec l x A c W ((he.below hW).2 0 _ rfl) (EffK.below hl (bel2 hb0 hW)))
  have hea := fun W hW => each_Effect w.heap.size (effR (ct.fs.map Fld.f)) EA ec l W (EffK.below hl (bel2 hb0 hW)) (fun x hx A c W2 hW2 hdeep => clo2_Effect w.heap.size x A c ct FA fc SA sc MA mc W2 (hc.below (bel2 hW hW2)) hdeep (h.below (bel2 hb0 (bel2 hW hW2))))
  have HO := Lib.hid ho
  have HE := Lib.hid hea
  have HQ := Lib.hid (fun w1 (hb1 : Below _ _ w1) => (he.below hb1).2 0 _ rfl)
  have HB := Lib.hid hb0
  unfold effsR
  rw [onceN_of]
  clear h ho he hc hea hb0 hl hm hm1
  generalize onceF (fun x => placeN x.field (l.map Eff.field) 0) l 0 = b2 at *
  generalize l.all (effR (ct.fs.map Fld.f)) = b3 at *
  go_enter Tryz.func128, Tryz.ntmps128
  by_cases h4 : (l.length : Int) ≤ 4
  · have hd : decide ((l.length : Int) ≤ 4) = true := decide_eq_true h4
    rw [hd]
    rcases b2 with _ | _
    all_goals
      go_wp2_with (first | fail | (go_at_call 172; refine HO.out.mono ?_; rintro e w1 ⟨rfl, hb1⟩; have hq := HQ.out _ hb1) | (go_at_call 175; refine (HE.out _ hb1).mono ?_; rintro e w2 ⟨rfl, hb2⟩))
      go_ret
      first | exact ⟨ret_bool (by simp), bel2 HB.out hb1⟩ | exact ⟨ret_bool (by simp), bel2 (bel2 HB.out hb1) hb2⟩
  · have hd : decide ((l.length : Int) ≤ 4) = false := decide_eq_false h4
    rw [hd]
    go_wp2
    go_ret
    exact ⟨ret_bool (by first | (simp; done) | (simp; omega)), HB.out⟩
set_option maxHeartbeats 2000000 in
theorem rightMove_any (x : Mv) (A : Option Addr) (c : Nat) (EA : Option Addr) (ec : Nat) (ct : Ctr) (FA : Option Addr) (fc : Nat) (SA : Option Addr) (sc : Nat) (MA : Option Addr) (mc : Nat) (w : World) (hx : ExE w A c x.guard ∧ EffK w EA ec x.effs) (h : CtK w ct FA fc SA sc MA mc) :
    Calls Tryz.prog 80 #[agC ct.name FA ct.fs.length fc SA ct.ss.length sc MA ct.ms.length mc, agMv x A c EA ec] w (VMk (.bool (moveR ct x)) w) := by
  have hm := h.s.2.1
  have hm1 := h.s.1
  unfold maxLen at hm
  have hlen : ct.ss.length ≤ 9223372036854775807 := by omega
  have hw : IntKind.i64.wrap ((ct.ss.length : Int) - 1) = (ct.ss.length : Int) - 1 := by rw [IntKind.wrap_i64]; omega
  have HB := Lib.hid (bel2 (alloc1 w (bxC ct.name FA ct.fs.length fc SA ct.ss.length sc MA ct.ms.length mc)) (alloc1 (w.alloc (bxC ct.name FA ct.fs.length fc SA ct.ss.length sc MA ct.ms.length mc)) (.cells (csMv x A c EA ec).toArray 61)))
  have HC := Lib.hid ((BxA.new w (csC ct.name FA ct.fs.length fc SA ct.ss.length sc MA ct.ms.length mc) 26).below (alloc1 (w.alloc (bxC ct.name FA ct.fs.length fc SA ct.ss.length sc MA ct.ms.length mc)) (.cells (csMv x A c EA ec).toArray 61)))
  have HM := Lib.hid (BxA.new (w.alloc (bxC ct.name FA ct.fs.length fc SA ct.ss.length sc MA ct.ms.length mc)) (csMv x A c EA ec) 61)
  rw [size1] at HM
  have HN := Lib.hid (fun W => isName_any x.name W)
  have HA1 := Lib.hid (fun W => among_any x.frm 0 ((ct.ss.length : Int) - 1) W)
  have HA2 := Lib.hid (fun W => among_any x.too 0 ((ct.ss.length : Int) - 1) W)
  have HA3 := Lib.hid (fun W => among_any x.org (-1) 3 W)
  have HT := Lib.hid (fun W (hb : Below w.heap.size w W) => tells_any x.guard A c ct FA fc SA sc MA mc 2 W (hx.1.below hb) (h.below hb))
  have HE := Lib.hid (fun W (hb : Below w.heap.size w W) => rightEffects_any x.effs EA ec ct FA fc SA sc MA mc W (EffK.below hx.2 hb) (h.below hb))
  unfold moveR
  clear h hx hm hm1
  generalize nameB x.name = b1 at *
  generalize (decide (0 ≤ x.frm) && decide (x.frm ≤ (ct.ss.length : Int) - 1)) = b2 at *
  generalize (decide (0 ≤ x.too) && decide (x.too ≤ (ct.ss.length : Int) - 1)) = b3 at *
  generalize (decide (-1 ≤ x.org) && decide (x.org ≤ 3)) = b4 at *
  generalize tellsR x.guard (ct.fs.map Fld.f) 2 = b5 at *
  generalize effsR (ct.fs.map Fld.f) x.effs = b6 at *
  have hsf := fun (w : World) (a : Addr) (m : Mode) (b : Nat) => run_store Tryz.prog w a (.float .f64 b) m rfl
  go_enter Tryz.func80, Tryz.ntmps80
  rcases b1 with _ | _
  · go_wp2_with (first | fail | (go_at_call 30; refine (HN.out _).mono ?_; rintro e w1 ⟨rfl, rfl⟩))
    go_ret
    exact ⟨ret_bool (by simp), HB.out⟩
  rcases b2 with _ | _
  · go_wp2_with (first | fail | (go_at_call 30; refine (HN.out _).mono ?_; rintro e w1 ⟨rfl, rfl⟩) | (first | (go_at_call_of 67 (x.frm); refine (HA1.out _).mono ?_; rintro e w1 ⟨rfl, rfl⟩) | (go_at_call_of 67 (x.too); refine (HA2.out _).mono ?_; rintro e w1 ⟨rfl, rfl⟩) | (go_at_call_of 67 (x.org); refine (HA3.out _).mono ?_; rintro e w1 ⟨rfl, rfl⟩)))
    go_ret
    exact ⟨ret_bool (by simp), HB.out⟩
  rcases b3 with _ | _
  · go_wp2_with (first | fail | (go_at_call 30; refine (HN.out _).mono ?_; rintro e w1 ⟨rfl, rfl⟩) | (first | (go_at_call_of 67 (x.frm); refine (HA1.out _).mono ?_; rintro e w1 ⟨rfl, rfl⟩) | (go_at_call_of 67 (x.too); refine (HA2.out _).mono ?_; rintro e w1 ⟨rfl, rfl⟩) | (go_at_call_of 67 (x.org); refine (HA3.out _).mono ?_; rintro e w1 ⟨rfl, rfl⟩)))
    go_ret
    exact ⟨ret_bool (by simp), HB.out⟩
  rcases b4 with _ | _
  · go_wp2_with (first | fail | (go_at_call 30; refine (HN.out _).mono ?_; rintro e w1 ⟨rfl, rfl⟩) | (first | (go_at_call_of 67 (x.frm); refine (HA1.out _).mono ?_; rintro e w1 ⟨rfl, rfl⟩) | (go_at_call_of 67 (x.too); refine (HA2.out _).mono ?_; rintro e w1 ⟨rfl, rfl⟩) | (go_at_call_of 67 (x.org); refine (HA3.out _).mono ?_; rintro e w1 ⟨rfl, rfl⟩)))
    go_ret
    exact ⟨ret_bool (by simp), HB.out⟩
  rcases b5 with _ | _
  · go_wp2_with (first | fail | (go_at_call 30; refine (HN.out _).mono ?_; rintro e w1 ⟨rfl, rfl⟩) | (first | (go_at_call_of 67 (x.frm); refine (HA1.out _).mono ?_; rintro e w1 ⟨rfl, rfl⟩) | (go_at_call_of 67 (x.too); refine (HA2.out _).mono ?_; rintro e w1 ⟨rfl, rfl⟩) | (go_at_call_of 67 (x.org); refine (HA3.out _).mono ?_; rintro e w1 ⟨rfl, rfl⟩)) | (go_at_call 127; refine (HT.out _ HB.out).mono ?_; rintro e w1 ⟨rfl, hb1⟩; have c0 := (HC.out.below hb1).2 0 _ rfl; have c1 := (HC.out.below hb1).2 1 _ rfl; have c2 := (HC.out.below hb1).2 2 _ rfl; have c3 := (HC.out.below hb1).2 3 _ rfl; have q0 := (HM.out.below hb1).2 0 _ rfl; have q1 := (HM.out.below hb1).2 1 _ rfl; have q2 := (HM.out.below hb1).2 2 _ rfl; have q3 := (HM.out.below hb1).2 3 _ rfl; have q4 := (HM.out.below hb1).2 4 _ rfl; have q5 := (HM.out.below hb1).2 5 _ rfl; have q6 := (HM.out.below hb1).2 6 _ rfl; have q7 := (HM.out.below hb1).2 7 _ rfl; have q8 := (HM.out.below hb1).2 8 _ rfl; have q9 := (HM.out.below hb1).2 9 _ rfl; have q10 := (HM.out.below hb1).2 10 _ rfl; have q11 := (HM.out.below hb1).2 11 _ rfl; have q12 := (HM.out.below hb1).2 12 _ rfl))
    go_ret
    exact ⟨ret_bool (by simp), bel2 HB.out hb1⟩
  rcases b6 with _ | _
  · go_wp2_with (first | fail | (go_at_call 30; refine (HN.out _).mono ?_; rintro e w1 ⟨rfl, rfl⟩) | (first | (go_at_call_of 67 (x.frm); refine (HA1.out _).mono ?_; rintro e w1 ⟨rfl, rfl⟩) | (go_at_call_of 67 (x.too); refine (HA2.out _).mono ?_; rintro e w1 ⟨rfl, rfl⟩) | (go_at_call_of 67 (x.org); refine (HA3.out _).mono ?_; rintro e w1 ⟨rfl, rfl⟩)) | (go_at_call 127; refine (HT.out _ HB.out).mono ?_; rintro e w1 ⟨rfl, hb1⟩; have c0 := (HC.out.below hb1).2 0 _ rfl; have c1 := (HC.out.below hb1).2 1 _ rfl; have c2 := (HC.out.below hb1).2 2 _ rfl; have c3 := (HC.out.below hb1).2 3 _ rfl; have q0 := (HM.out.below hb1).2 0 _ rfl; have q1 := (HM.out.below hb1).2 1 _ rfl; have q2 := (HM.out.below hb1).2 2 _ rfl; have q3 := (HM.out.below hb1).2 3 _ rfl; have q4 := (HM.out.below hb1).2 4 _ rfl; have q5 := (HM.out.below hb1).2 5 _ rfl; have q6 := (HM.out.below hb1).2 6 _ rfl; have q7 := (HM.out.below hb1).2 7 _ rfl; have q8 := (HM.out.below hb1).2 8 _ rfl; have q9 := (HM.out.below hb1).2 9 _ rfl; have q10 := (HM.out.below hb1).2 10 _ rfl; have q11 := (HM.out.below hb1).2 11 _ rfl; have q12 := (HM.out.below hb1).2 12 _ rfl) | (go_at_call 128; refine (HE.out _ (bel2 HB.out hb1)).mono ?_; rintro e w2 ⟨rfl, hb2⟩))
    go_ret
    exact ⟨ret_bool (by simp), bel2 (bel2 HB.out hb1) hb2⟩
  go_wp2_with (first | fail | (go_at_call 30; refine (HN.out _).mono ?_; rintro e w1 ⟨rfl, rfl⟩) | (first | (go_at_call_of 67 (x.frm); refine (HA1.out _).mono ?_; rintro e w1 ⟨rfl, rfl⟩) | (go_at_call_of 67 (x.too); refine (HA2.out _).mono ?_; rintro e w1 ⟨rfl, rfl⟩) | (go_at_call_of 67 (x.org); refine (HA3.out _).mono ?_; rintro e w1 ⟨rfl, rfl⟩)) | (go_at_call 127; refine (HT.out _ HB.out).mono ?_; rintro e w1 ⟨rfl, hb1⟩; have c0 := (HC.out.below hb1).2 0 _ rfl; have c1 := (HC.out.below hb1).2 1 _ rfl; have c2 := (HC.out.below hb1).2 2 _ rfl; have c3 := (HC.out.below hb1).2 3 _ rfl; have q0 := (HM.out.below hb1).2 0 _ rfl; have q1 := (HM.out.below hb1).2 1 _ rfl; have q2 := (HM.out.below hb1).2 2 _ rfl; have q3 := (HM.out.below hb1).2 3 _ rfl; have q4 := (HM.out.below hb1).2 4 _ rfl; have q5 := (HM.out.below hb1).2 5 _ rfl; have q6 := (HM.out.below hb1).2 6 _ rfl; have q7 := (HM.out.below hb1).2 7 _ rfl; have q8 := (HM.out.below hb1).2 8 _ rfl; have q9 := (HM.out.below hb1).2 9 _ rfl; have q10 := (HM.out.below hb1).2 10 _ rfl; have q11 := (HM.out.below hb1).2 11 _ rfl; have q12 := (HM.out.below hb1).2 12 _ rfl) | (go_at_call 128; refine (HE.out _ (bel2 HB.out hb1)).mono ?_; rintro e w2 ⟨rfl, hb2⟩))
  go_ret
  exact ⟨ret_bool (by simp), bel2 (bel2 HB.out hb1) hb2⟩
theorem clo2_Move (p : Nat) (x : Mv) (A : Option Addr) (c : Nat) (EA : Option Addr) (ec : Nat) (ct : Ctr) (FA : Option Addr) (fc : Nat) (SA : Option Addr) (sc : Nat) (MA : Option Addr) (mc : Nat) (w : World) (hbx : BxA w p (csC ct.name FA ct.fs.length fc SA ct.ss.length sc MA ct.ms.length mc)) (hx : ExE w A c x.guard ∧ EffK w EA ec x.effs) (h : CtK w ct FA fc SA sc MA mc) :
    Calls Tryz.prog 79 #[agMv x A c EA ec, .pointer (some ⟨p, 0, none⟩)] w (VMk (.bool (moveR ct x)) w) := by
  have hp : p < w.heap.size := hbx.1
  have hne : ¬ w.heap.size = p := by omega
  have h0 := hbx.2 0 _ rfl
  have h1 := hbx.2 1 _ rfl
  have h2 := hbx.2 2 _ rfl
  have h3 := hbx.2 3 _ rfl
  have HC := Lib.hid (fun o => rightMove_any x A c EA ec ct FA fc SA sc MA mc (w.alloc o) ⟨hx.1.below (alloc1 w o), EffK.below hx.2 (alloc1 w o)⟩ (h.below (alloc1 w o)))
  clear h hx hbx
  generalize moveR ct x = r at *
  have hsf := fun (w : World) (a : Addr) (m : Mode) (b : Nat) => run_store Tryz.prog w a (.float .f64 b) m rfl
  go_enter Tryz.func79, Tryz.ntmps79
  go_wp2_with (go_at_call 80; refine (HC.out _).mono ?_; rintro e w1 ⟨rfl, hb1⟩)
  go_ret
  exact ⟨rfl, bel2 (alloc1 w _) hb1⟩
end Go.Proofs.YthgdnpcfdgimlabGreat

/- Layer 6: a field, a stage, an effect, a move, a contract as bytes, by the program. (Made by gen/gencput.py.) -/
namespace Go.Proofs.YthgdnpcfdgimlabGreat
open Go.RowKit
set_option linter.unusedVariables false
set_option linter.unusedSimpArgs false
set_option maxRecDepth 20000

set_option maxHeartbeats 4000000 in
theorem putField_any (x : Fld) (A : Option Addr) (c : Nat) (w : World) (hd : Ss w (.slice A x.en.length c) x.en) (hs : FldS x) (hok : okV x.y) :
    Calls Tryz.prog 49 #[agFl x A c] w (PutsV w (fldB x)) := by
  have hle := hs.le
  unfold fldB at hle
  have hq1 : ∀ W, Below w.heap.size w W → Calls Tryz.prog 47 #[.string x.f.name] W (Puts W (texB x.f.name)) := fun W H => putText_any x.f.name W (by have := hs.nm; omega)
  have hq2 : ∀ W, Below w.heap.size w W → Calls Tryz.prog 87 #[.int .i64 x.f.kind] W (Puts W (intB x.f.kind)) := fun W H => putInt_any x.f.kind W
  have hq3 : ∀ W, Below w.heap.size w W → Calls Tryz.prog 88 #[.slice A x.en.length c, .func (Fn.func 47) #[] #[]] W (Puts W (listB texB x.en)) := fun W H => putL_Str texB A c x.en W (hd.below H (Nat.le_refl _)) (by have := hs.en; omega) (by have h1 := listB_len texB 36 x.en (fun s hs2 => by rw [texB_len]; have := hs.tx s hs2; omega); have := hs.en; omega) (fun s hs2 W2 => ((putText_any s W2 (by have := hs.tx s hs2; omega)).mono fun e w3 h => PutsV.of_puts h (Below.refl _ _)))
  have hq4 : ∀ W, Below w.heap.size w W → Calls Tryz.prog 89 #[.slice none 0 0, agV x.y] W (PutsV W (valB x.y)) := fun W H => (by have h := Put_val x.y (.slice none 0 0) [] W (Bs.nil W) (by simp) (by have := hs.vl; omega) hok.2.2; rwa [List.nil_append] at h)
  have hcc : ∀ W v, Bss W v [texB x.f.name, intB x.f.kind, listB texB x.en, valB x.y] → Calls Tryz.prog 46 #[v] W (Puts W ([texB x.f.name, intB x.f.kind, listB texB x.en, valB x.y].flatten)) := fun W v hv => Concat_any v _ W hv (by simp only [List.flatten_cons, List.flatten_nil, List.append_nil, ← List.append_assoc]; omega)
  have hfl : fldB x = [texB x.f.name, intB x.f.kind, listB texB x.en, valB x.y].flatten := by unfold fldB; simp only [List.flatten_cons, List.flatten_nil, List.append_nil, List.append_assoc]
  rw [hfl]
  clear hfl
  generalize texB x.f.name = m1 at *
  generalize intB x.f.kind = m2 at *
  generalize listB texB x.en = m3 at *
  generalize valB x.y = m4 at *
  have Q1 := Lib.hid hq1
  have Q2 := Lib.hid hq2
  have Q3 := Lib.hid hq3
  have Q4 := Lib.hid hq4
  have QC := Lib.hid hcc
  have HA := Lib.hid (BxA.new w [.string x.f.name, .int .i64 x.f.kind, .slice A x.en.length c, .int .i64 x.y.k, .int .i64 x.y.i, .bool x.y.b, .string x.y.s, .float .f64 x.y.n] 55)
  have HW := Lib.hid (alloc1 w (.cells #[.string x.f.name, .int .i64 x.f.kind, .slice A x.en.length c, .int .i64 x.y.k, .int .i64 x.y.i, .bool x.y.b, .string x.y.s, .float .f64 x.y.n] 55))
  clear hle hcc hq1 hq2 hq3 hq4 hd hs hok
  have hsf := fun (w : World) (a : Addr) (m : Mode) (b : Nat) => run_store Tryz.prog w a (.float .f64 b) m rfl
  go_enter Tryz.func49, Tryz.ntmps49
  go_upto_region 1 with fail
  have HWK := Lib.hid (al_lt w (.cells #[.string x.f.name, .int .i64 x.f.kind, .slice A x.en.length c, .int .i64 x.y.k, .int .i64 x.y.i, .bool x.y.b, .string x.y.s, .float .f64 x.y.n] 55))
  generalize hwk : w.alloc (.cells #[.string x.f.name, .int .i64 x.f.kind, .slice A x.en.length c, .int .i64 x.y.k, .int .i64 x.y.i, .bool x.y.b, .string x.y.s, .float .f64 x.y.n] 55) = wk at *
  clear hwk
  have hkp : ∀ W, Below wk.heap.size wk W → (fun W => Below wk.heap.size wk W ∧ W.cell? ⟨w.heap.size, 0, none⟩ = some (.string x.f.name) ∧ W.cell? ⟨w.heap.size, 1, none⟩ = some (.int .i64 x.f.kind) ∧ W.cell? ⟨w.heap.size, 2, none⟩ = some (.slice A x.en.length c) ∧ W.cell? ⟨w.heap.size, 3, none⟩ = some (.int .i64 x.y.k) ∧ W.cell? ⟨w.heap.size, 4, none⟩ = some (.int .i64 x.y.i) ∧ W.cell? ⟨w.heap.size, 5, none⟩ = some (.bool x.y.b) ∧ W.cell? ⟨w.heap.size, 6, none⟩ = some (.string x.y.s) ∧ W.cell? ⟨w.heap.size, 7, none⟩ = some (.float .f64 x.y.n)) W := fun W h => ⟨h, (HA.out.below h).2 0 _ rfl, (HA.out.below h).2 1 _ rfl, (HA.out.below h).2 2 _ rfl, (HA.out.below h).2 3 _ rfl, (HA.out.below h).2 4 _ rfl, (HA.out.below h).2 5 _ rfl, (HA.out.below h).2 6 _ rfl, (HA.out.below h).2 7 _ rfl⟩
  have HKP := Lib.hid hkp
  clear hkp
  have HS0 := Lib.hid (HKP.out wk.drew (Below.refl _ _).drew)
  go_region_held3 (fun W => Below wk.heap.size wk W ∧ W.cell? ⟨w.heap.size, 0, none⟩ = some (.string x.f.name) ∧ W.cell? ⟨w.heap.size, 1, none⟩ = some (.int .i64 x.f.kind) ∧ W.cell? ⟨w.heap.size, 2, none⟩ = some (.slice A x.en.length c) ∧ W.cell? ⟨w.heap.size, 3, none⟩ = some (.int .i64 x.y.k) ∧ W.cell? ⟨w.heap.size, 4, none⟩ = some (.int .i64 x.y.i) ∧ W.cell? ⟨w.heap.size, 5, none⟩ = some (.bool x.y.b) ∧ W.cell? ⟨w.heap.size, 6, none⟩ = some (.string x.y.s) ∧ W.cell? ⟨w.heap.size, 7, none⟩ = some (.float .f64 x.y.n)) (first | exact HS0.out | exact HKP.out _ HB1.out | exact HKP.out _ HB2.out | exact HKP.out _ HB3.out | exact HKP.out _ HB4.out | exact HKP.out _ HB5.out | exact HKP.out _ (bel2 HB4.out (alloc1 _ _))) (first
    | (go_at_call 47; refine (Q1.out _ (bel2 HW.out (Below.refl wk.heap.size wk).drew)).mono ?_; rintro e w1 ⟨v1, rfl, ho1, hb1⟩; obtain ⟨A1, c1, rfl, -⟩ := (own_bs ho1).open; have HO1 := Lib.hid (own_bs ho1); have HB1 := Lib.hid (bel2 (Below.refl wk.heap.size wk).drew hb1); have HL1 := Lib.hid hb1; clear ho1 hb1)
    | (go_at_call 87; refine (Q2.out _ (bel2 HW.out HB1.out)).mono ?_; rintro e w2 ⟨v2, rfl, ho2, hb2⟩; obtain ⟨A2, c2, rfl, -⟩ := (own_bs ho2).open; have HO2 := Lib.hid (own_bs ho2); have HB2 := Lib.hid (bel2 HB1.out hb2); have HL2 := Lib.hid hb2; clear ho2 hb2)
    | (go_at_call 88; refine (Q3.out _ (bel2 HW.out HB2.out)).mono ?_; rintro e w3 ⟨v3, rfl, ho3, hb3⟩; obtain ⟨A3, c3, rfl, -⟩ := (own_bs ho3).open; have HO3 := Lib.hid (own_bs ho3); have HB3 := Lib.hid (bel2 HB2.out hb3); have HL3 := Lib.hid hb3; clear ho3 hb3)
    | (go_at_call 89; refine (Q4.out _ (bel2 HW.out HB3.out)).mono ?_; rintro e w4 ⟨v4, B4, rfl, hB4, ho4, hb4⟩; obtain ⟨A4, c4, rfl, -⟩ := (own_bs ho4).open; have HO4 := Lib.hid (own_bs ho4); have HB4 := Lib.hid (bel2 HB3.out hb4); have HL4 := Lib.hid hb4; clear ho4 hb4)
    | (go_at_call 46; refine (QC.out _ _ (bss_built _ [.slice A1 _ c1, .slice A2 _ c2, .slice A3 _ c3, .slice A4 _ c4] _ 4 rfl (by decide) ⟨(Rd.below (Rd.below (Rd.below HO1.out HL2.out (Nat.le_refl _)) HL3.out (Nat.le_refl _)) HL4.out (Nat.le_refl _)), (Rd.below (Rd.below HO2.out HL3.out (Nat.le_refl _)) HL4.out (Nat.le_refl _)), (Rd.below HO3.out HL4.out (Nat.le_refl _)), HO4.out, trivial⟩)).mono ?_; rintro e w5 ⟨v5, rfl, ho5, hb5⟩; have HB5 := Lib.hid (bel2 (bel2 HB4.out (alloc1 _ _)) hb5)))
  go_wp2_with fail
  go_ret
  exact ⟨_, _, rfl, Nat.le_trans HW.out.size (bel2 HB4.out (alloc1 _ _)).size, ho5, bel2 HW.out HB5.out⟩
set_option maxHeartbeats 4000000 in
theorem putStage_any (x : Stg) (A : Option Addr) (c : Nat) (w : World) (hd : Is w (.slice A x.orgs.length c) x.orgs) (hs : StgS x) :
    Calls Tryz.prog 51 #[agSt x A c] w (PutsV w (stgB x)) := by
  have hle := hs.le
  unfold stgB at hle
  have hq1 : ∀ W, Below w.heap.size w W → Calls Tryz.prog 47 #[.string x.name] W (Puts W (texB x.name)) := fun W H => putText_any x.name W (by have := hs.nm; omega)
  have hq2 : ∀ W, Below w.heap.size w W → Calls Tryz.prog 87 #[.int .i64 x.need] W (Puts W (intB x.need)) := fun W H => putInt_any x.need W
  have hq3 : ∀ W, Below w.heap.size w W → Calls Tryz.prog 90 #[.slice A x.orgs.length c, .func (Fn.func 87) #[] #[]] W (Puts W (listB intB x.orgs)) := fun W H => putL_Int intB A c x.orgs W (Rd.below hd H (Nat.le_refl _)) (by have := hs.og; omega) (by have h1 := listB_len intB 8 x.orgs (fun s hs2 => by rw [intB_len]; omega); have := hs.og; omega) (fun s hs2 W2 => ((putInt_any s W2).mono fun e w3 h => PutsV.of_puts h (Below.refl _ _)))
  have hcc : ∀ W v, Bss W v [texB x.name, intB x.need, listB intB x.orgs] → Calls Tryz.prog 46 #[v] W (Puts W ([texB x.name, intB x.need, listB intB x.orgs].flatten)) := fun W v hv => Concat_any v _ W hv (by simp only [List.flatten_cons, List.flatten_nil, List.append_nil, ← List.append_assoc]; omega)
  have hfl : stgB x = [texB x.name, intB x.need, listB intB x.orgs].flatten := by unfold stgB; simp only [List.flatten_cons, List.flatten_nil, List.append_nil, List.append_assoc]
  rw [hfl]
  clear hfl
  generalize texB x.name = m1 at *
  generalize intB x.need = m2 at *
  generalize listB intB x.orgs = m3 at *
  have Q1 := Lib.hid hq1
  have Q2 := Lib.hid hq2
  have Q3 := Lib.hid hq3
  have QC := Lib.hid hcc
  have HA := Lib.hid (BxA.new w [.string x.name, .int .i64 x.need, .slice A x.orgs.length c] 69)
  have HW := Lib.hid (alloc1 w (.cells #[.string x.name, .int .i64 x.need, .slice A x.orgs.length c] 69))
  clear hle hcc hq1 hq2 hq3 hd hs
  have hsf := fun (w : World) (a : Addr) (m : Mode) (b : Nat) => run_store Tryz.prog w a (.float .f64 b) m rfl
  go_enter Tryz.func51, Tryz.ntmps51
  go_upto_region 1 with fail
  have HWK := Lib.hid (al_lt w (.cells #[.string x.name, .int .i64 x.need, .slice A x.orgs.length c] 69))
  generalize hwk : w.alloc (.cells #[.string x.name, .int .i64 x.need, .slice A x.orgs.length c] 69) = wk at *
  clear hwk
  have hkp : ∀ W, Below wk.heap.size wk W → (fun W => Below wk.heap.size wk W ∧ W.cell? ⟨w.heap.size, 0, none⟩ = some (.string x.name) ∧ W.cell? ⟨w.heap.size, 1, none⟩ = some (.int .i64 x.need) ∧ W.cell? ⟨w.heap.size, 2, none⟩ = some (.slice A x.orgs.length c)) W := fun W h => ⟨h, (HA.out.below h).2 0 _ rfl, (HA.out.below h).2 1 _ rfl, (HA.out.below h).2 2 _ rfl⟩
  have HKP := Lib.hid hkp
  clear hkp
  have HS0 := Lib.hid (HKP.out wk.drew (Below.refl _ _).drew)
  go_region_held3 (fun W => Below wk.heap.size wk W ∧ W.cell? ⟨w.heap.size, 0, none⟩ = some (.string x.name) ∧ W.cell? ⟨w.heap.size, 1, none⟩ = some (.int .i64 x.need) ∧ W.cell? ⟨w.heap.size, 2, none⟩ = some (.slice A x.orgs.length c)) (first | exact HS0.out | exact HKP.out _ HB1.out | exact HKP.out _ HB2.out | exact HKP.out _ HB3.out | exact HKP.out _ HB4.out | exact HKP.out _ (bel2 HB3.out (alloc1 _ _))) (first
    | (go_at_call 47; refine (Q1.out _ (bel2 HW.out (Below.refl wk.heap.size wk).drew)).mono ?_; rintro e w1 ⟨v1, rfl, ho1, hb1⟩; obtain ⟨A1, c1, rfl, -⟩ := (own_bs ho1).open; have HO1 := Lib.hid (own_bs ho1); have HB1 := Lib.hid (bel2 (Below.refl wk.heap.size wk).drew hb1); have HL1 := Lib.hid hb1; clear ho1 hb1)
    | (go_at_call 87; refine (Q2.out _ (bel2 HW.out HB1.out)).mono ?_; rintro e w2 ⟨v2, rfl, ho2, hb2⟩; obtain ⟨A2, c2, rfl, -⟩ := (own_bs ho2).open; have HO2 := Lib.hid (own_bs ho2); have HB2 := Lib.hid (bel2 HB1.out hb2); have HL2 := Lib.hid hb2; clear ho2 hb2)
    | (go_at_call 90; refine (Q3.out _ (bel2 HW.out HB2.out)).mono ?_; rintro e w3 ⟨v3, rfl, ho3, hb3⟩; obtain ⟨A3, c3, rfl, -⟩ := (own_bs ho3).open; have HO3 := Lib.hid (own_bs ho3); have HB3 := Lib.hid (bel2 HB2.out hb3); have HL3 := Lib.hid hb3; clear ho3 hb3)
    | (go_at_call 46; refine (QC.out _ _ (bss_built _ [.slice A1 _ c1, .slice A2 _ c2, .slice A3 _ c3] _ 3 rfl (by decide) ⟨(Rd.below (Rd.below HO1.out HL2.out (Nat.le_refl _)) HL3.out (Nat.le_refl _)), (Rd.below HO2.out HL3.out (Nat.le_refl _)), HO3.out, trivial⟩)).mono ?_; rintro e w4 ⟨v4, rfl, ho4, hb4⟩; have HB4 := Lib.hid (bel2 (bel2 HB3.out (alloc1 _ _)) hb4)))
  go_wp2_with fail
  go_ret
  exact ⟨_, _, rfl, Nat.le_trans HW.out.size (bel2 HB3.out (alloc1 _ _)).size, ho4, bel2 HW.out HB4.out⟩
set_option maxHeartbeats 4000000 in
theorem putEffect_any (x : Eff) (A : Option Addr) (c : Nat) (fs : List Fd) (w : World) (hd : ExE w A c x.e) (hs : EffS fs x) (hok : ∀ k, okX k x.e) :
    Calls Tryz.prog 93 #[agEf x A c] w (PutsV w (effB x)) := by
  obtain ⟨D, hd⟩ := hd
  have hle := hs.le
  unfold effB at hle
  have hq1 : ∀ W, Below w.heap.size w W → Calls Tryz.prog 47 #[.string x.field] W (Puts W (texB x.field)) := fun W H => putText_any x.field W (by have := hs.fd; omega)
  have hq2 : ∀ W, Below w.heap.size w W → Calls Tryz.prog 91 #[.slice none 0 0, agX x.e.op A x.e.kids.length c x.e.name x.e.val] W (PutsV W (putE x.e)) := fun W H => (by have h := ePut_any D x.e A c (.slice none 0 0) [] W (hd.below H (Nat.le_refl _)) (fun _ => hs.ex.tx) (hok 6) (Bs.nil W) (by simp); rwa [List.nil_append] at h)
  have hcc : ∀ W v, Bss W v [texB x.field, putE x.e] → Calls Tryz.prog 46 #[v] W (Puts W ([texB x.field, putE x.e].flatten)) := fun W v hv => Concat_any v _ W hv (by simp only [List.flatten_cons, List.flatten_nil, List.append_nil, ← List.append_assoc]; omega)
  have hfl : effB x = [texB x.field, putE x.e].flatten := by unfold effB; simp only [List.flatten_cons, List.flatten_nil, List.append_nil, List.append_assoc]
  rw [hfl]
  clear hfl
  generalize texB x.field = m1 at *
  generalize putE x.e = m2 at *
  have Q1 := Lib.hid hq1
  have Q2 := Lib.hid hq2
  have QC := Lib.hid hcc
  have HA := Lib.hid (BxA.new w [.string x.field, .int .i64 x.e.op, .slice A x.e.kids.length c, .string x.e.name, .int .i64 x.e.val.k, .int .i64 x.e.val.i, .bool x.e.val.b, .string x.e.val.s, .float .f64 x.e.val.n] 65)
  have HW := Lib.hid (alloc1 w (.cells #[.string x.field, .int .i64 x.e.op, .slice A x.e.kids.length c, .string x.e.name, .int .i64 x.e.val.k, .int .i64 x.e.val.i, .bool x.e.val.b, .string x.e.val.s, .float .f64 x.e.val.n] 65))
  clear hle hcc hq1 hq2 hd hs hok D
  have hsf := fun (w : World) (a : Addr) (m : Mode) (b : Nat) => run_store Tryz.prog w a (.float .f64 b) m rfl
  go_enter Tryz.func93, Tryz.ntmps93
  go_upto_region 1 with fail
  have HWK := Lib.hid (al_lt w (.cells #[.string x.field, .int .i64 x.e.op, .slice A x.e.kids.length c, .string x.e.name, .int .i64 x.e.val.k, .int .i64 x.e.val.i, .bool x.e.val.b, .string x.e.val.s, .float .f64 x.e.val.n] 65))
  generalize hwk : w.alloc (.cells #[.string x.field, .int .i64 x.e.op, .slice A x.e.kids.length c, .string x.e.name, .int .i64 x.e.val.k, .int .i64 x.e.val.i, .bool x.e.val.b, .string x.e.val.s, .float .f64 x.e.val.n] 65) = wk at *
  clear hwk
  have hkp : ∀ W, Below wk.heap.size wk W → (fun W => Below wk.heap.size wk W ∧ W.cell? ⟨w.heap.size, 0, none⟩ = some (.string x.field) ∧ W.cell? ⟨w.heap.size, 1, none⟩ = some (.int .i64 x.e.op) ∧ W.cell? ⟨w.heap.size, 2, none⟩ = some (.slice A x.e.kids.length c) ∧ W.cell? ⟨w.heap.size, 3, none⟩ = some (.string x.e.name) ∧ W.cell? ⟨w.heap.size, 4, none⟩ = some (.int .i64 x.e.val.k) ∧ W.cell? ⟨w.heap.size, 5, none⟩ = some (.int .i64 x.e.val.i) ∧ W.cell? ⟨w.heap.size, 6, none⟩ = some (.bool x.e.val.b) ∧ W.cell? ⟨w.heap.size, 7, none⟩ = some (.string x.e.val.s) ∧ W.cell? ⟨w.heap.size, 8, none⟩ = some (.float .f64 x.e.val.n)) W := fun W h => ⟨h, (HA.out.below h).2 0 _ rfl, (HA.out.below h).2 1 _ rfl, (HA.out.below h).2 2 _ rfl, (HA.out.below h).2 3 _ rfl, (HA.out.below h).2 4 _ rfl, (HA.out.below h).2 5 _ rfl, (HA.out.below h).2 6 _ rfl, (HA.out.below h).2 7 _ rfl, (HA.out.below h).2 8 _ rfl⟩
  have HKP := Lib.hid hkp
  clear hkp
  have HS0 := Lib.hid (HKP.out wk.drew (Below.refl _ _).drew)
  go_region_held3 (fun W => Below wk.heap.size wk W ∧ W.cell? ⟨w.heap.size, 0, none⟩ = some (.string x.field) ∧ W.cell? ⟨w.heap.size, 1, none⟩ = some (.int .i64 x.e.op) ∧ W.cell? ⟨w.heap.size, 2, none⟩ = some (.slice A x.e.kids.length c) ∧ W.cell? ⟨w.heap.size, 3, none⟩ = some (.string x.e.name) ∧ W.cell? ⟨w.heap.size, 4, none⟩ = some (.int .i64 x.e.val.k) ∧ W.cell? ⟨w.heap.size, 5, none⟩ = some (.int .i64 x.e.val.i) ∧ W.cell? ⟨w.heap.size, 6, none⟩ = some (.bool x.e.val.b) ∧ W.cell? ⟨w.heap.size, 7, none⟩ = some (.string x.e.val.s) ∧ W.cell? ⟨w.heap.size, 8, none⟩ = some (.float .f64 x.e.val.n)) (first | exact HS0.out | exact HKP.out _ HB1.out | exact HKP.out _ HB2.out | exact HKP.out _ HB3.out | exact HKP.out _ (bel2 HB2.out (alloc1 _ _))) (first
    | (go_at_call 47; refine (Q1.out _ (bel2 HW.out (Below.refl wk.heap.size wk).drew)).mono ?_; rintro e w1 ⟨v1, rfl, ho1, hb1⟩; obtain ⟨A1, c1, rfl, -⟩ := (own_bs ho1).open; have HO1 := Lib.hid (own_bs ho1); have HB1 := Lib.hid (bel2 (Below.refl wk.heap.size wk).drew hb1); have HL1 := Lib.hid hb1; clear ho1 hb1)
    | (go_at_call 91; refine (Q2.out _ (bel2 HW.out HB1.out)).mono ?_; rintro e w2 ⟨v2, B2, rfl, hB2, ho2, hb2⟩; obtain ⟨A2, c2, rfl, -⟩ := (own_bs ho2).open; have HO2 := Lib.hid (own_bs ho2); have HB2 := Lib.hid (bel2 HB1.out hb2); have HL2 := Lib.hid hb2; clear ho2 hb2)
    | (go_at_call 46; refine (QC.out _ _ (bss_built _ [.slice A1 _ c1, .slice A2 _ c2] _ 2 rfl (by decide) ⟨(Rd.below HO1.out HL2.out (Nat.le_refl _)), HO2.out, trivial⟩)).mono ?_; rintro e w3 ⟨v3, rfl, ho3, hb3⟩; have HB3 := Lib.hid (bel2 (bel2 HB2.out (alloc1 _ _)) hb3)))
  go_wp2_with fail
  go_ret
  exact ⟨_, _, rfl, Nat.le_trans HW.out.size (bel2 HB2.out (alloc1 _ _)).size, ho3, bel2 HW.out HB3.out⟩
set_option maxHeartbeats 4000000 in
theorem putMove_any (ct : Ctr) (x : Mv) (A : Option Addr) (c : Nat) (EA : Option Addr) (ec : Nat) (w : World) (hd : ExE w A c x.guard ∧ EffK w EA ec x.effs) (hs : MvS ct x) (hok : (∀ k, okX k x.guard) ∧ ∀ e ∈ x.effs, ∀ k, okX k e.e) :
    Calls Tryz.prog 53 #[agMv x A c EA ec] w (PutsV w (mvB x)) := by
  obtain ⟨⟨D, hd⟩, he⟩ := hd
  have hle := hs.le
  unfold mvB at hle
  have hq1 : ∀ W, Below w.heap.size w W → Calls Tryz.prog 47 #[.string x.name] W (Puts W (texB x.name)) := fun W H => putText_any x.name W (by have := hs.nm; omega)
  have hq2 : ∀ W, Below w.heap.size w W → Calls Tryz.prog 87 #[.int .i64 x.frm] W (Puts W (intB x.frm)) := fun W H => putInt_any x.frm W
  have hq3 : ∀ W, Below w.heap.size w W → Calls Tryz.prog 87 #[.int .i64 x.too] W (Puts W (intB x.too)) := fun W H => putInt_any x.too W
  have hq4 : ∀ W, Below w.heap.size w W → Calls Tryz.prog 87 #[.int .i64 x.org] W (Puts W (intB x.org)) := fun W H => putInt_any x.org W
  have hq5 : ∀ W, Below w.heap.size w W → Calls Tryz.prog 91 #[.slice none 0 0, agX x.guard.op A x.guard.kids.length c x.guard.name x.guard.val] W (PutsV W (putE x.guard)) := fun W H => (by have h := ePut_any D x.guard A c (.slice none 0 0) [] W (hd.below H (Nat.le_refl _)) (fun _ => hs.gd.tx) (hok.1 6) (Bs.nil W) (by simp); rwa [List.nil_append] at h)
  have hq6 : ∀ W, Below w.heap.size w W → Calls Tryz.prog 92 #[.slice EA x.effs.length ec, .func (Fn.func 93) #[] #[]] W (Puts W (listB effB x.effs)) := fun W H => putL_Effect effB EA ec x.effs W (EffK.below he H) (by have := hs.ef; omega) (by have h1 := listB_len effB 2500 x.effs (fun s hs2 => (hs.es s hs2).le); have := hs.ef; omega) (fun y hy A2 c2 W2 hW2 hdeep => putEffect_any y A2 c2 (ct.fs.map Fld.f) W2 hdeep (hs.es y hy) (hok.2 y hy))
  have hcc : ∀ W v, Bss W v [texB x.name, intB x.frm, intB x.too, intB x.org, putE x.guard, listB effB x.effs] → Calls Tryz.prog 46 #[v] W (Puts W ([texB x.name, intB x.frm, intB x.too, intB x.org, putE x.guard, listB effB x.effs].flatten)) := fun W v hv => Concat_any v _ W hv (by simp only [List.flatten_cons, List.flatten_nil, List.append_nil, ← List.append_assoc]; omega)
  have hfl : mvB x = [texB x.name, intB x.frm, intB x.too, intB x.org, putE x.guard, listB effB x.effs].flatten := by unfold mvB; simp only [List.flatten_cons, List.flatten_nil, List.append_nil, List.append_assoc]
  rw [hfl]
  clear hfl
  generalize texB x.name = m1 at *
  generalize intB x.frm = m2 at *
  generalize intB x.too = m3 at *
  generalize intB x.org = m4 at *
  generalize putE x.guard = m5 at *
  generalize listB effB x.effs = m6 at *
  have Q1 := Lib.hid hq1
  have Q2 := Lib.hid hq2
  have Q3 := Lib.hid hq3
  have Q4 := Lib.hid hq4
  have Q5 := Lib.hid hq5
  have Q6 := Lib.hid hq6
  have QC := Lib.hid hcc
  have HA := Lib.hid (BxA.new w [.string x.name, .int .i64 x.frm, .int .i64 x.too, .int .i64 x.guard.op, .slice A x.guard.kids.length c, .string x.guard.name, .int .i64 x.guard.val.k, .int .i64 x.guard.val.i, .bool x.guard.val.b, .string x.guard.val.s, .float .f64 x.guard.val.n, .slice EA x.effs.length ec, .int .i64 x.org] 61)
  have HW := Lib.hid (alloc1 w (.cells #[.string x.name, .int .i64 x.frm, .int .i64 x.too, .int .i64 x.guard.op, .slice A x.guard.kids.length c, .string x.guard.name, .int .i64 x.guard.val.k, .int .i64 x.guard.val.i, .bool x.guard.val.b, .string x.guard.val.s, .float .f64 x.guard.val.n, .slice EA x.effs.length ec, .int .i64 x.org] 61))
  clear hle hcc hq1 hq2 hq3 hq4 hq5 hq6 hd he hs hok D
  have hsf := fun (w : World) (a : Addr) (m : Mode) (b : Nat) => run_store Tryz.prog w a (.float .f64 b) m rfl
  go_enter Tryz.func53, Tryz.ntmps53
  go_upto_region 1 with fail
  have HWK := Lib.hid (al_lt w (.cells #[.string x.name, .int .i64 x.frm, .int .i64 x.too, .int .i64 x.guard.op, .slice A x.guard.kids.length c, .string x.guard.name, .int .i64 x.guard.val.k, .int .i64 x.guard.val.i, .bool x.guard.val.b, .string x.guard.val.s, .float .f64 x.guard.val.n, .slice EA x.effs.length ec, .int .i64 x.org] 61))
  generalize hwk : w.alloc (.cells #[.string x.name, .int .i64 x.frm, .int .i64 x.too, .int .i64 x.guard.op, .slice A x.guard.kids.length c, .string x.guard.name, .int .i64 x.guard.val.k, .int .i64 x.guard.val.i, .bool x.guard.val.b, .string x.guard.val.s, .float .f64 x.guard.val.n, .slice EA x.effs.length ec, .int .i64 x.org] 61) = wk at *
  clear hwk
  have hkp : ∀ W, Below wk.heap.size wk W → (fun W => Below wk.heap.size wk W ∧ W.cell? ⟨w.heap.size, 0, none⟩ = some (.string x.name) ∧ W.cell? ⟨w.heap.size, 1, none⟩ = some (.int .i64 x.frm) ∧ W.cell? ⟨w.heap.size, 2, none⟩ = some (.int .i64 x.too) ∧ W.cell? ⟨w.heap.size, 3, none⟩ = some (.int .i64 x.guard.op) ∧ W.cell? ⟨w.heap.size, 4, none⟩ = some (.slice A x.guard.kids.length c) ∧ W.cell? ⟨w.heap.size, 5, none⟩ = some (.string x.guard.name) ∧ W.cell? ⟨w.heap.size, 6, none⟩ = some (.int .i64 x.guard.val.k) ∧ W.cell? ⟨w.heap.size, 7, none⟩ = some (.int .i64 x.guard.val.i) ∧ W.cell? ⟨w.heap.size, 8, none⟩ = some (.bool x.guard.val.b) ∧ W.cell? ⟨w.heap.size, 9, none⟩ = some (.string x.guard.val.s) ∧ W.cell? ⟨w.heap.size, 10, none⟩ = some (.float .f64 x.guard.val.n) ∧ W.cell? ⟨w.heap.size, 11, none⟩ = some (.slice EA x.effs.length ec) ∧ W.cell? ⟨w.heap.size, 12, none⟩ = some (.int .i64 x.org)) W := fun W h => ⟨h, (HA.out.below h).2 0 _ rfl, (HA.out.below h).2 1 _ rfl, (HA.out.below h).2 2 _ rfl, (HA.out.below h).2 3 _ rfl, (HA.out.below h).2 4 _ rfl, (HA.out.below h).2 5 _ rfl, (HA.out.below h).2 6 _ rfl, (HA.out.below h).2 7 _ rfl, (HA.out.below h).2 8 _ rfl, (HA.out.below h).2 9 _ rfl, (HA.out.below h).2 10 _ rfl, (HA.out.below h).2 11 _ rfl, (HA.out.below h).2 12 _ rfl⟩
  have HKP := Lib.hid hkp
  clear hkp
  have HS0 := Lib.hid (HKP.out wk.drew (Below.refl _ _).drew)
  go_region_held3 (fun W => Below wk.heap.size wk W ∧ W.cell? ⟨w.heap.size, 0, none⟩ = some (.string x.name) ∧ W.cell? ⟨w.heap.size, 1, none⟩ = some (.int .i64 x.frm) ∧ W.cell? ⟨w.heap.size, 2, none⟩ = some (.int .i64 x.too) ∧ W.cell? ⟨w.heap.size, 3, none⟩ = some (.int .i64 x.guard.op) ∧ W.cell? ⟨w.heap.size, 4, none⟩ = some (.slice A x.guard.kids.length c) ∧ W.cell? ⟨w.heap.size, 5, none⟩ = some (.string x.guard.name) ∧ W.cell? ⟨w.heap.size, 6, none⟩ = some (.int .i64 x.guard.val.k) ∧ W.cell? ⟨w.heap.size, 7, none⟩ = some (.int .i64 x.guard.val.i) ∧ W.cell? ⟨w.heap.size, 8, none⟩ = some (.bool x.guard.val.b) ∧ W.cell? ⟨w.heap.size, 9, none⟩ = some (.string x.guard.val.s) ∧ W.cell? ⟨w.heap.size, 10, none⟩ = some (.float .f64 x.guard.val.n) ∧ W.cell? ⟨w.heap.size, 11, none⟩ = some (.slice EA x.effs.length ec) ∧ W.cell? ⟨w.heap.size, 12, none⟩ = some (.int .i64 x.org)) (first | exact HS0.out | exact HKP.out _ HB1.out | exact HKP.out _ HB2.out | exact HKP.out _ HB3.out | exact HKP.out _ HB4.out | exact HKP.out _ HB5.out | exact HKP.out _ HB6.out | exact HKP.out _ HB7.out | exact HKP.out _ (bel2 HB6.out (alloc1 _ _))) (first
    | (go_at_call 47; refine (Q1.out _ (bel2 HW.out (Below.refl wk.heap.size wk).drew)).mono ?_; rintro e w1 ⟨v1, rfl, ho1, hb1⟩; obtain ⟨A1, c1, rfl, -⟩ := (own_bs ho1).open; have HO1 := Lib.hid (own_bs ho1); have HB1 := Lib.hid (bel2 (Below.refl wk.heap.size wk).drew hb1); have HL1 := Lib.hid hb1; clear ho1 hb1)
    | (go_at_call 87; refine (Q2.out _ (bel2 HW.out HB1.out)).mono ?_; rintro e w2 ⟨v2, rfl, ho2, hb2⟩; obtain ⟨A2, c2, rfl, -⟩ := (own_bs ho2).open; have HO2 := Lib.hid (own_bs ho2); have HB2 := Lib.hid (bel2 HB1.out hb2); have HL2 := Lib.hid hb2; clear ho2 hb2)
    | (go_at_call 87; refine (Q3.out _ (bel2 HW.out HB2.out)).mono ?_; rintro e w3 ⟨v3, rfl, ho3, hb3⟩; obtain ⟨A3, c3, rfl, -⟩ := (own_bs ho3).open; have HO3 := Lib.hid (own_bs ho3); have HB3 := Lib.hid (bel2 HB2.out hb3); have HL3 := Lib.hid hb3; clear ho3 hb3)
    | (go_at_call 87; refine (Q4.out _ (bel2 HW.out HB3.out)).mono ?_; rintro e w4 ⟨v4, rfl, ho4, hb4⟩; obtain ⟨A4, c4, rfl, -⟩ := (own_bs ho4).open; have HO4 := Lib.hid (own_bs ho4); have HB4 := Lib.hid (bel2 HB3.out hb4); have HL4 := Lib.hid hb4; clear ho4 hb4)
    | (go_at_call 91; refine (Q5.out _ (bel2 HW.out HB4.out)).mono ?_; rintro e w5 ⟨v5, B5, rfl, hB5, ho5, hb5⟩; obtain ⟨A5, c5, rfl, -⟩ := (own_bs ho5).open; have HO5 := Lib.hid (own_bs ho5); have HB5 := Lib.hid (bel2 HB4.out hb5); have HL5 := Lib.hid hb5; clear ho5 hb5)
    | (go_at_call 92; refine (Q6.out _ (bel2 HW.out HB5.out)).mono ?_; rintro e w6 ⟨v6, rfl, ho6, hb6⟩; obtain ⟨A6, c6, rfl, -⟩ := (own_bs ho6).open; have HO6 := Lib.hid (own_bs ho6); have HB6 := Lib.hid (bel2 HB5.out hb6); have HL6 := Lib.hid hb6; clear ho6 hb6)
    | (go_at_call 46; refine (QC.out _ _ (bss_built _ [.slice A1 _ c1, .slice A2 _ c2, .slice A3 _ c3, .slice A4 _ c4, .slice A5 _ c5, .slice A6 _ c6] _ 6 rfl (by decide) ⟨(Rd.below (Rd.below (Rd.below (Rd.below (Rd.below HO1.out HL2.out (Nat.le_refl _)) HL3.out (Nat.le_refl _)) HL4.out (Nat.le_refl _)) HL5.out (Nat.le_refl _)) HL6.out (Nat.le_refl _)), (Rd.below (Rd.below (Rd.below (Rd.below HO2.out HL3.out (Nat.le_refl _)) HL4.out (Nat.le_refl _)) HL5.out (Nat.le_refl _)) HL6.out (Nat.le_refl _)), (Rd.below (Rd.below (Rd.below HO3.out HL4.out (Nat.le_refl _)) HL5.out (Nat.le_refl _)) HL6.out (Nat.le_refl _)), (Rd.below (Rd.below HO4.out HL5.out (Nat.le_refl _)) HL6.out (Nat.le_refl _)), (Rd.below HO5.out HL6.out (Nat.le_refl _)), HO6.out, trivial⟩)).mono ?_; rintro e w7 ⟨v7, rfl, ho7, hb7⟩; have HB7 := Lib.hid (bel2 (bel2 HB6.out (alloc1 _ _)) hb7)))
  go_wp2_with fail
  go_ret
  exact ⟨_, _, rfl, Nat.le_trans HW.out.size (bel2 HB6.out (alloc1 _ _)).size, ho7, bel2 HW.out HB7.out⟩
end Go.Proofs.YthgdnpcfdgimlabGreat

/- Layer 6: all fields, all moves, Check, by the program. (Made by gen/gencmv.py.) -/
namespace Go.Proofs.YthgdnpcfdgimlabGreat
open Go.RowKit
set_option linter.unusedVariables false
set_option linter.unusedSimpArgs false
set_option maxRecDepth 20000

set_option maxHeartbeats 1000000 in
theorem rightFields_any (ct : Ctr) (FA : Option Addr) (fc : Nat) (SA : Option Addr) (sc : Nat) (MA : Option Addr) (mc : Nat) (w : World) (h : CtK w ct FA fc SA sc MA mc) :
    Calls Tryz.prog 31 #[agC ct.name FA ct.fs.length fc SA ct.ss.length sc MA ct.ms.length mc] w (VMk (.bool (fieldsR ct)) w) := by
  have hm := h.f.2.1
  have hm1 := h.f.1
  unfold maxLen at hm
  have hlen : ct.fs.length ≤ 9223372036854775807 := by omega
  have hb0 := alloc1 w (bxC ct.name FA ct.fs.length fc SA ct.ss.length sc MA ct.ms.length mc)
  have hc := BxA.new w (csC ct.name FA ct.fs.length fc SA ct.ss.length sc MA ct.ms.length mc) 26
  have ho := once_Field (fun x => placeN x.f.name (ct.fs.map fun x => x.f.name) 0) w.heap.size FA fc ct.fs _ (h.f.below hb0) (fun x hx A c W hW => clo1_Field w.heap.size ct FA fc SA sc MA mc x A c W ((hc.below hW).2 0 _ rfl) ((hc.below hW).2 1 _ rfl) ((hc.below hW).2 2 _ rfl) ((hc.below hW).2 3 _ rfl) (h.below (bel2 hb0 hW)))
  have he := fun W hW => each_Field fieldR FA fc ct.fs W (h.f.below (bel2 hb0 hW)) (fun x hx A c W2 hW2 hI => rightField_any x A c W2 hI)
  have HO := Lib.hid ho
  have HE := Lib.hid he
  have HQ := Lib.hid (fun w1 (hb1 : Below _ _ w1) => (hc.below hb1).2 1 _ rfl)
  have HB := Lib.hid hb0
  unfold fieldsR
  rw [onceN_of]
  clear h ho he hc hb0 hm hm1
  generalize onceF (fun x => placeN x.f.name (ct.fs.map fun x => x.f.name) 0) ct.fs 0 = b2 at *
  generalize ct.fs.all fieldR = b3 at *
  go_enter Tryz.func31, Tryz.ntmps31
  by_cases h4 : (ct.fs.length : Int) ≤ 6
  · have hd : decide ((ct.fs.length : Int) ≤ 6) = true := decide_eq_true h4
    rw [hd]
    rcases b2 with _ | _
    all_goals
      go_wp2_with (first | fail | (go_at_call 68; refine HO.out.mono ?_; rintro e w1 ⟨rfl, hb1⟩; have hq := HQ.out _ hb1) | (go_at_call 70; refine (HE.out _ hb1).mono ?_; rintro e w2 ⟨rfl, hb2⟩))
      go_ret
      first | exact ⟨ret_bool (by simp), bel2 HB.out hb1⟩ | exact ⟨ret_bool (by simp), bel2 (bel2 HB.out hb1) hb2⟩
  · have hd : decide ((ct.fs.length : Int) ≤ 6) = false := decide_eq_false h4
    rw [hd]
    go_wp2
    go_ret
    exact ⟨ret_bool (by first | (simp; done) | (simp; omega)), HB.out⟩
set_option maxHeartbeats 1000000 in
theorem rightMoves_any (ct : Ctr) (FA : Option Addr) (fc : Nat) (SA : Option Addr) (sc : Nat) (MA : Option Addr) (mc : Nat) (w : World) (h : CtK w ct FA fc SA sc MA mc) :
    Calls Tryz.prog 33 #[agC ct.name FA ct.fs.length fc SA ct.ss.length sc MA ct.ms.length mc] w (VMk (.bool (movesR ct)) w) := by
  have hm := h.m.2.1
  have hm1 := h.m.1
  unfold maxLen at hm
  have hlen : ct.ms.length ≤ 9223372036854775807 := by omega
  have hb0 := alloc1 w (bxC ct.name FA ct.fs.length fc SA ct.ss.length sc MA ct.ms.length mc)
  have hc := BxA.new w (csC ct.name FA ct.fs.length fc SA ct.ss.length sc MA ct.ms.length mc) 26
  have ho := once_Move (fun x => placeN x.name (ct.ms.map fun x => x.name) 0) w.heap.size MA mc ct.ms _ (h.m.below hb0) (fun x hx A c EA ec W hW => clo1_Move w.heap.size ct FA fc SA sc MA mc x A c EA ec W ((hc.below hW).2 0 _ rfl) ((hc.below hW).2 1 _ rfl) ((hc.below hW).2 2 _ rfl) ((hc.below hW).2 3 _ rfl) (h.below (bel2 hb0 hW)))
  have he := fun W hW => each_Move w.heap.size (moveR ct) MA mc ct.ms W (h.m.below (bel2 hb0 hW)) (fun x hx A c EA ec W2 hW2 hI => clo2_Move w.heap.size x A c EA ec ct FA fc SA sc MA mc W2 (hc.below (bel2 hW hW2)) hI (h.below (bel2 hb0 (bel2 hW hW2))))
  have HO := Lib.hid ho
  have HE := Lib.hid he
  have HQ := Lib.hid (fun w1 (hb1 : Below _ _ w1) => (hc.below hb1).2 3 _ rfl)
  have HB := Lib.hid hb0
  unfold movesR
  rw [onceN_of]
  clear h ho he hc hb0 hm hm1
  generalize onceF (fun x => placeN x.name (ct.ms.map fun x => x.name) 0) ct.ms 0 = b2 at *
  generalize ct.ms.all (moveR ct) = b3 at *
  go_enter Tryz.func33, Tryz.ntmps33
  by_cases h4 : (ct.ms.length : Int) ≤ 8
  · have hd : decide ((ct.ms.length : Int) ≤ 8) = true := decide_eq_true h4
    rw [hd]
    rcases b2 with _ | _
    all_goals
      go_wp2_with (first | fail | (go_at_call 76; refine HO.out.mono ?_; rintro e w1 ⟨rfl, hb1⟩; have hq := HQ.out _ hb1) | (go_at_call 78; refine (HE.out _ hb1).mono ?_; rintro e w2 ⟨rfl, hb2⟩))
      go_ret
      first | exact ⟨ret_bool (by simp), bel2 HB.out hb1⟩ | exact ⟨ret_bool (by simp), bel2 (bel2 HB.out hb1) hb2⟩
  · have hd : decide ((ct.ms.length : Int) ≤ 8) = false := decide_eq_false h4
    rw [hd]
    go_wp2
    go_ret
    exact ⟨ret_bool (by first | (simp; done) | (simp; omega)), HB.out⟩
set_option maxHeartbeats 2000000 in
theorem cCheck_any (ct : Ctr) (FA : Option Addr) (fc : Nat) (SA : Option Addr) (sc : Nat) (MA : Option Addr) (mc : Nat) (w : World) (h : CtK w ct FA fc SA sc MA mc) :
    Calls Tryz.prog 10 #[agC ct.name FA ct.fs.length fc SA ct.ss.length sc MA ct.ms.length mc] w (VMk (.int .i64 (checkC ct)) w) := by
  have HB := Lib.hid (alloc1 w (bxC ct.name FA ct.fs.length fc SA ct.ss.length sc MA ct.ms.length mc))
  have HC := Lib.hid (BxA.new w (csC ct.name FA ct.fs.length fc SA ct.ss.length sc MA ct.ms.length mc) 26)
  have HN := Lib.hid (fun W => isName_any ct.name W)
  have HF := Lib.hid (fun W (hb : Below w.heap.size w W) => rightFields_any ct FA fc SA sc MA mc W (h.below hb))
  have HS := Lib.hid (fun W (hb : Below w.heap.size w W) => rightStages_any ct FA fc SA sc MA mc W (h.below hb))
  have HM := Lib.hid (fun W (hb : Below w.heap.size w W) => rightMoves_any ct FA fc SA sc MA mc W (h.below hb))
  unfold checkC
  clear h
  generalize nameB ct.name = b1 at *
  generalize fieldsR ct = b2 at *
  generalize stagesR ct = b3 at *
  generalize movesR ct = b4 at *
  go_enter Tryz.func10, Tryz.ntmps10
  rcases b1 with _ | _
  · go_wp2_with (first | fail | (go_at_call 30; refine (HN.out _).mono ?_; rintro e w1 ⟨rfl, rfl⟩))
    go_ret
    exact ⟨rfl, HB.out⟩
  rcases b2 with _ | _
  · go_wp2_with (first | fail | (go_at_call 30; refine (HN.out _).mono ?_; rintro e w1 ⟨rfl, rfl⟩) | (go_at_call 31; refine (HF.out _ (HB.out)).mono ?_; rintro e w2 ⟨rfl, hb2⟩; (try clear c0); (try clear c1); (try clear c2); (try clear c3); have c0 := (HC.out.below (hb2)).2 0 _ rfl; have c1 := (HC.out.below (hb2)).2 1 _ rfl; have c2 := (HC.out.below (hb2)).2 2 _ rfl; have c3 := (HC.out.below (hb2)).2 3 _ rfl))
    go_ret
    exact ⟨rfl, bel2 (HB.out) hb2⟩
  rcases b3 with _ | _
  · go_wp2_with (first | fail | (go_at_call 30; refine (HN.out _).mono ?_; rintro e w1 ⟨rfl, rfl⟩) | (go_at_call 31; refine (HF.out _ (HB.out)).mono ?_; rintro e w2 ⟨rfl, hb2⟩; (try clear c0); (try clear c1); (try clear c2); (try clear c3); have c0 := (HC.out.below (hb2)).2 0 _ rfl; have c1 := (HC.out.below (hb2)).2 1 _ rfl; have c2 := (HC.out.below (hb2)).2 2 _ rfl; have c3 := (HC.out.below (hb2)).2 3 _ rfl) | (go_at_call 32; refine (HS.out _ (bel2 (HB.out) hb2)).mono ?_; rintro e w3 ⟨rfl, hb3⟩; (try clear c0); (try clear c1); (try clear c2); (try clear c3); have c0 := (HC.out.below (bel2 hb2 hb3)).2 0 _ rfl; have c1 := (HC.out.below (bel2 hb2 hb3)).2 1 _ rfl; have c2 := (HC.out.below (bel2 hb2 hb3)).2 2 _ rfl; have c3 := (HC.out.below (bel2 hb2 hb3)).2 3 _ rfl))
    go_ret
    exact ⟨rfl, bel2 (bel2 (HB.out) hb2) hb3⟩
  rcases b4 with _ | _
  · go_wp2_with (first | fail | (go_at_call 30; refine (HN.out _).mono ?_; rintro e w1 ⟨rfl, rfl⟩) | (go_at_call 31; refine (HF.out _ (HB.out)).mono ?_; rintro e w2 ⟨rfl, hb2⟩; (try clear c0); (try clear c1); (try clear c2); (try clear c3); have c0 := (HC.out.below (hb2)).2 0 _ rfl; have c1 := (HC.out.below (hb2)).2 1 _ rfl; have c2 := (HC.out.below (hb2)).2 2 _ rfl; have c3 := (HC.out.below (hb2)).2 3 _ rfl) | (go_at_call 32; refine (HS.out _ (bel2 (HB.out) hb2)).mono ?_; rintro e w3 ⟨rfl, hb3⟩; (try clear c0); (try clear c1); (try clear c2); (try clear c3); have c0 := (HC.out.below (bel2 hb2 hb3)).2 0 _ rfl; have c1 := (HC.out.below (bel2 hb2 hb3)).2 1 _ rfl; have c2 := (HC.out.below (bel2 hb2 hb3)).2 2 _ rfl; have c3 := (HC.out.below (bel2 hb2 hb3)).2 3 _ rfl) | (go_at_call 33; refine (HM.out _ (bel2 (bel2 (HB.out) hb2) hb3)).mono ?_; rintro e w4 ⟨rfl, hb4⟩; (try clear c0); (try clear c1); (try clear c2); (try clear c3); have c0 := (HC.out.below (bel2 (bel2 hb2 hb3) hb4)).2 0 _ rfl; have c1 := (HC.out.below (bel2 (bel2 hb2 hb3) hb4)).2 1 _ rfl; have c2 := (HC.out.below (bel2 (bel2 hb2 hb3) hb4)).2 2 _ rfl; have c3 := (HC.out.below (bel2 (bel2 hb2 hb3) hb4)).2 3 _ rfl))
    go_ret
    exact ⟨rfl, bel2 (bel2 (bel2 (HB.out) hb2) hb3) hb4⟩
  go_wp2_with (first | fail | (go_at_call 30; refine (HN.out _).mono ?_; rintro e w1 ⟨rfl, rfl⟩) | (go_at_call 31; refine (HF.out _ (HB.out)).mono ?_; rintro e w2 ⟨rfl, hb2⟩; (try clear c0); (try clear c1); (try clear c2); (try clear c3); have c0 := (HC.out.below (hb2)).2 0 _ rfl; have c1 := (HC.out.below (hb2)).2 1 _ rfl; have c2 := (HC.out.below (hb2)).2 2 _ rfl; have c3 := (HC.out.below (hb2)).2 3 _ rfl) | (go_at_call 32; refine (HS.out _ (bel2 (HB.out) hb2)).mono ?_; rintro e w3 ⟨rfl, hb3⟩; (try clear c0); (try clear c1); (try clear c2); (try clear c3); have c0 := (HC.out.below (bel2 hb2 hb3)).2 0 _ rfl; have c1 := (HC.out.below (bel2 hb2 hb3)).2 1 _ rfl; have c2 := (HC.out.below (bel2 hb2 hb3)).2 2 _ rfl; have c3 := (HC.out.below (bel2 hb2 hb3)).2 3 _ rfl) | (go_at_call 33; refine (HM.out _ (bel2 (bel2 (HB.out) hb2) hb3)).mono ?_; rintro e w4 ⟨rfl, hb4⟩; (try clear c0); (try clear c1); (try clear c2); (try clear c3); have c0 := (HC.out.below (bel2 (bel2 hb2 hb3) hb4)).2 0 _ rfl; have c1 := (HC.out.below (bel2 (bel2 hb2 hb3) hb4)).2 1 _ rfl; have c2 := (HC.out.below (bel2 (bel2 hb2 hb3) hb4)).2 2 _ rfl; have c3 := (HC.out.below (bel2 (bel2 hb2 hb3) hb4)).2 3 _ rfl))
  go_ret
  exact ⟨rfl, bel2 (bel2 (bel2 (HB.out) hb2) hb3) hb4⟩
end Go.Proofs.YthgdnpcfdgimlabGreat

/- Layer 6: Put of a contract, by the program. (Made by gen/gencput2.py.) -/
namespace Go.Proofs.YthgdnpcfdgimlabGreat
open Go.RowKit
set_option linter.unusedVariables false
set_option linter.unusedSimpArgs false
set_option maxRecDepth 20000

theorem putC_bad {c : Ctr} (h : checkC c ≠ 0) : putC c = [] := if_neg h
theorem putC_good {c : Ctr} (h : checkC c = 0) : putC c = ctrB c := if_pos h
set_option maxHeartbeats 4000000 in
theorem cPut_any (ct : Ctr) (FA : Option Addr) (fc : Nat) (SA : Option Addr) (sc : Nat) (MA : Option Addr) (mc : Nat) (v : Value) (l : List UInt8) (w : World) (h : CtK w ct FA fc SA sc MA mc) (hok : okC ct) (hv : Bs w v l) (hl : l.length ≤ 5000) :
    Calls Tryz.prog 20 #[v, agC ct.name FA ct.fs.length fc SA ct.ss.length sc MA ct.ms.length mc] w (PutsV w (l ++ putC ct)) := by
  have HCK := Lib.hid (fun W (hb : Below w.heap.size w W) => cCheck_any ct FA fc SA sc MA mc W (h.below hb))
  have HB0 := Lib.hid (alloc1 w (bxC ct.name FA ct.fs.length fc SA ct.ss.length sc MA ct.ms.length mc))
  have HC := Lib.hid (BxA.new w (csC ct.name FA ct.fs.length fc SA ct.ss.length sc MA ct.ms.length mc) 26)
  have HCL := Lib.hid (fun W (hb : Below w.heap.size w W) => Clone_puts v l W (Rd.below hv hb (Nat.le_refl _)) (by omega))
  by_cases h0 : checkC ct = 0
  case neg =>
    have hb : (checkC ct != 0) = true := by simpa using h0
    rw [putC_bad h0, List.append_nil]
    clear h0 h hok hv hl
    generalize checkC ct = r at *
    go_enter Tryz.func20, Tryz.ntmps20
    go_wp2_with (first
      | fail
      | (go_at_call 10; refine (HCK.out _ HB0.out).mono ?_; rintro e w1 ⟨rfl, hb1⟩)
      | (go_at_call 45; refine (HCL.out _ (bel2 HB0.out hb1)).mono ?_; rintro e w2 ⟨v2, rfl, ho2, hb2⟩))
    go_ret
    exact ⟨_, _, rfl, (bel2 HB0.out hb1).size, ho2, bel2 (bel2 HB0.out hb1) hb2⟩
  have hs := ctr_short hok h0
  have hle := hs.le
  rw [h0] at HCK
  rw [putC_good h0]
  unfold ctrB at hle ⊢
  have hq1 : ∀ W, Below w.heap.size w W → Calls Tryz.prog 47 #[.string ct.name] W (Puts W (texB ct.name)) := fun W H => putText_any ct.name W (by have := hs.nm; omega)
  have hq2 : ∀ W, Below w.heap.size w W → Calls Tryz.prog 48 #[.slice FA ct.fs.length fc, .func (Fn.func 49) #[] #[]] W (Puts W (listB fldB ct.fs)) := fun W H => putL_Field fldB FA fc ct.fs W (h.f.below H) (by have := hs.fn; omega) (by have h1 := listB_len fldB 300 ct.fs (fun f hf => (hs.fs f hf).le); have := hs.fn; omega) (fun x hx A c W2 hW2 hd => putField_any x A c W2 hd (hs.fs x hx) (hok.y x hx).1)
  have hq3 : ∀ W, Below w.heap.size w W → Calls Tryz.prog 50 #[.slice SA ct.ss.length sc, .func (Fn.func 51) #[] #[]] W (Puts W (listB stgB ct.ss)) := fun W H => putL_Stage stgB SA sc ct.ss W (h.s.below H) (by have := hs.sn; omega) (by have h1 := listB_len stgB 100 ct.ss (fun f hf => (hs.ss f hf).le); have := hs.sn; omega) (fun x hx A c W2 hW2 hd => putStage_any x A c W2 hd (hs.ss x hx))
  have hq4 : ∀ W, Below w.heap.size w W → Calls Tryz.prog 52 #[.slice MA ct.ms.length mc, .func (Fn.func 53) #[] #[]] W (Puts W (listB mvB ct.ms)) := fun W H => putL_Move mvB MA mc ct.ms W (h.m.below H) (by have := hs.mn; omega) (by have h1 := listB_len mvB 13000 ct.ms (fun f hf => (hs.ms f hf).le); have := hs.mn; omega) (fun x hx A c EA ec W2 hW2 hd => putMove_any ct x A c EA ec W2 hd (hs.ms x hx) ⟨(hok.m x hx).2.2.2.1, (hok.m x hx).2.2.2.2⟩)
  have hcc : ∀ W u, Bss W u [l, texB ct.name, listB fldB ct.fs, listB stgB ct.ss, listB mvB ct.ms] → Calls Tryz.prog 46 #[u] W (Puts W ([l, texB ct.name, listB fldB ct.fs, listB stgB ct.ss, listB mvB ct.ms].flatten)) := fun W u hu => Concat_any u _ W hu (by simp only [List.flatten_cons, List.flatten_nil, List.append_nil, List.length_append] at hle ⊢; omega)
  have hfl : l ++ (texB ct.name ++ listB fldB ct.fs ++ listB stgB ct.ss ++ listB mvB ct.ms) = [l, texB ct.name, listB fldB ct.fs, listB stgB ct.ss, listB mvB ct.ms].flatten := by simp only [List.flatten_cons, List.flatten_nil, List.append_nil, List.append_assoc]
  rw [hfl]
  clear hfl
  generalize texB ct.name = m1 at *
  generalize listB fldB ct.fs = m2 at *
  generalize listB stgB ct.ss = m3 at *
  generalize listB mvB ct.ms = m4 at *
  obtain ⟨bA, bc0, rfl, -⟩ := hv.open
  have HBV := Lib.hid hv
  have Q1 := Lib.hid hq1
  have Q2 := Lib.hid hq2
  have Q3 := Lib.hid hq3
  have Q4 := Lib.hid hq4
  have QC := Lib.hid hcc
  have hbz : ((0 : Int) != 0) = false := rfl
  clear hcc hq1 hq2 hq3 hq4 hle hs h0 h hok hv hl HCL
  go_enter Tryz.func20, Tryz.ntmps20
  go_wp2_with (first
    | fail
    | (go_at_call 10; refine (HCK.out _ HB0.out).mono ?_; rintro e w1 ⟨rfl, hb1⟩))
  have HKP := Lib.hid (show ∀ W, Below w1.heap.size w1 W → (fun W => Below w1.heap.size w1 W ∧ W.cell? ⟨w.heap.size, 0, none⟩ = some (.string ct.name) ∧ W.cell? ⟨w.heap.size, 1, none⟩ = some (.slice FA ct.fs.length fc) ∧ W.cell? ⟨w.heap.size, 2, none⟩ = some (.slice SA ct.ss.length sc) ∧ W.cell? ⟨w.heap.size, 3, none⟩ = some (.slice MA ct.ms.length mc)) W from fun W h => ⟨h, (HC.out.below (bel2 hb1 h)).2 0 _ rfl, (HC.out.below (bel2 hb1 h)).2 1 _ rfl, (HC.out.below (bel2 hb1 h)).2 2 _ rfl, (HC.out.below (bel2 hb1 h)).2 3 _ rfl⟩)
  have HW := Lib.hid (bel2 HB0.out hb1)
  clear hb1
  have HS0 := Lib.hid (HKP.out w1.drew (Below.refl _ _).drew)
  go_region_held3 (fun W => Below w1.heap.size w1 W ∧ W.cell? ⟨w.heap.size, 0, none⟩ = some (.string ct.name) ∧ W.cell? ⟨w.heap.size, 1, none⟩ = some (.slice FA ct.fs.length fc) ∧ W.cell? ⟨w.heap.size, 2, none⟩ = some (.slice SA ct.ss.length sc) ∧ W.cell? ⟨w.heap.size, 3, none⟩ = some (.slice MA ct.ms.length mc)) (first | exact HS0.out | exact HKP.out _ HB1.out | exact HKP.out _ HB2.out | exact HKP.out _ HB3.out | exact HKP.out _ HB4.out | exact HKP.out _ HB5.out | exact HKP.out _ (bel2 HB4.out (alloc1 _ _))) (first
    | (go_at_call 47; refine (Q1.out _ (bel2 HW.out (Below.refl w1.heap.size w1).drew)).mono ?_; rintro e w2 ⟨v1, rfl, ho1, hb1⟩; obtain ⟨A1, c1, rfl, -⟩ := (own_bs ho1).open; have HO1 := Lib.hid (own_bs ho1); have HB1 := Lib.hid (bel2 (Below.refl w1.heap.size w1).drew hb1); have HL1 := Lib.hid hb1; clear ho1 hb1)
    | (go_at_call 48; refine (Q2.out _ (bel2 HW.out HB1.out)).mono ?_; rintro e w3 ⟨v2, rfl, ho2, hb2⟩; obtain ⟨A2, c2, rfl, -⟩ := (own_bs ho2).open; have HO2 := Lib.hid (own_bs ho2); have HB2 := Lib.hid (bel2 HB1.out hb2); have HL2 := Lib.hid hb2; clear ho2 hb2)
    | (go_at_call 50; refine (Q3.out _ (bel2 HW.out HB2.out)).mono ?_; rintro e w4 ⟨v3, rfl, ho3, hb3⟩; obtain ⟨A3, c3, rfl, -⟩ := (own_bs ho3).open; have HO3 := Lib.hid (own_bs ho3); have HB3 := Lib.hid (bel2 HB2.out hb3); have HL3 := Lib.hid hb3; clear ho3 hb3)
    | (go_at_call 52; refine (Q4.out _ (bel2 HW.out HB3.out)).mono ?_; rintro e w5 ⟨v4, rfl, ho4, hb4⟩; obtain ⟨A4, c4, rfl, -⟩ := (own_bs ho4).open; have HO4 := Lib.hid (own_bs ho4); have HB4 := Lib.hid (bel2 HB3.out hb4); have HL4 := Lib.hid hb4; clear ho4 hb4)
    | (go_at_call 46; refine (QC.out _ _ (bss_built _ [.slice bA _ bc0, .slice A1 _ c1, .slice A2 _ c2, .slice A3 _ c3, .slice A4 _ c4] _ 5 rfl (by decide) ⟨(Rd.below HBV.out (bel2 HW.out HB4.out) (Nat.le_refl _)), (Rd.below (Rd.below (Rd.below HO1.out HL2.out (Nat.le_refl _)) HL3.out (Nat.le_refl _)) HL4.out (Nat.le_refl _)), (Rd.below (Rd.below HO2.out HL3.out (Nat.le_refl _)) HL4.out (Nat.le_refl _)), (Rd.below HO3.out HL4.out (Nat.le_refl _)), HO4.out, trivial⟩)).mono ?_; rintro e w9 ⟨v9, rfl, ho9, hb9⟩; have HB5 := Lib.hid (bel2 (bel2 HB4.out (alloc1 _ _)) hb9)))
  go_wp2_with fail
  go_ret
  exact ⟨_, _, rfl, Nat.le_trans HW.out.size (bel2 HB4.out (alloc1 _ _)).size, ho9, bel2 HW.out HB5.out⟩
end Go.Proofs.YthgdnpcfdgimlabGreat

/- Layer 6: chapter 6's examples by definition, and as they are made. -/
namespace Go.Proofs.YthgdnpcfdgimlabGreat
open Go.RowKit
set_option linter.unusedVariables false
set_option linter.unusedSimpArgs false
set_option maxRecDepth 20000

def fldN : Fld := ⟨⟨⟨#[110]⟩, 1⟩, [], vInt 0⟩
def stgS : Stg := ⟨⟨#[115]⟩, 0, []⟩
def stgT : Stg := ⟨⟨#[116]⟩, 1, [0, 2]⟩
def mvYes : Mv := ⟨⟨#[109]⟩, 0, 1, conX (vTruth true), [], -1⟩
def mvInt : Mv := ⟨⟨#[109]⟩, 0, 0, conX (vInt 0), [], -1⟩
def ctOne : Ctr := ⟨⟨#[99]⟩, [fldN], [stgS, stgT], [mvYes]⟩
def ctNoS : Ctr := ⟨⟨#[99]⟩, [fldN], [], []⟩
def ctInt : Ctr := ⟨⟨#[99]⟩, [fldN], [stgS, stgT], [mvInt]⟩
def ctTwo : Ctr := ⟨⟨#[99]⟩, [fldN, fldN], [stgS, stgT], [mvYes]⟩
theorem once_one (nm : ByteArray) : onceN [nm] = true := by
  rw [onceN_iff]
  intro i hi
  have h0 : i = 0 := by have : i < 1 := hi; omega
  subst h0
  show placeN nm [nm] 0 = 0
  unfold placeN
  rw [if_pos (beq_self_eq_true _)]
  rfl
theorem once_dup (nm : ByteArray) : onceN [nm, nm] = false := by
  rw [← Bool.not_eq_true, onceN_iff]
  intro h
  have h1 := h 1 (by show 1 < 2; omega)
  have h2 : placeN nm [nm, nm] 0 = 1 := h1
  unfold placeN at h2
  rw [if_pos (beq_self_eq_true _)] at h2
  exact absurd h2 (by decide)
theorem ne_ts : ((⟨#[115]⟩ : ByteArray).toList == (⟨#[116]⟩ : ByteArray).toList) = false := by
  rw [ByteArray.toList_eq, ByteArray.toList_eq]
  decide
theorem place_t : placeN ⟨#[116]⟩ [⟨#[115]⟩, ⟨#[116]⟩] 0 = 1 := by
  unfold placeN
  rw [ne_ts, if_neg (by decide)]
  unfold placeN
  rw [if_pos (beq_self_eq_true _)]
  rfl
theorem place_s : placeN ⟨#[115]⟩ [⟨#[115]⟩, ⟨#[116]⟩] 0 = 0 := by
  unfold placeN
  rw [if_pos (beq_self_eq_true _)]
  rfl
theorem once_st : onceN [⟨#[115]⟩, ⟨#[116]⟩] = true := by
  rw [onceN_iff]
  intro i hi
  match i, hi with
  | 0, _ => exact place_s
  | 1, _ => exact place_t
theorem fldN_right : fieldR fldN = true := by
  have h : fitsV (vInt 0) 1 [] = 0 := by unfold fitsV; rw [good_int]; rfl
  have h1 : fitsV fldN.y fldN.f.kind fldN.en = 0 := h
  unfold fieldR
  rw [h1]
  rfl
theorem stgs_right : [stgS, stgT].all stageR = true := by decide
theorem fields_one (ss : List Stg) (ms : List Mv) : fieldsR ⟨⟨#[99]⟩, [fldN], ss, ms⟩ = true := by
  unfold fieldsR
  have h : onceN ([fldN].map fun f => f.f.name) = true := once_one _
  have h2 : [fldN].all fieldR = true := by rw [List.all_cons, fldN_right]; rfl
  show (decide ((([fldN].length : Nat) : Int) ≤ 6) && onceN ([fldN].map fun f => f.f.name) && [fldN].all fieldR) = true
  rw [h, h2]
  rfl
theorem fields_two : fieldsR ctTwo = false := by
  unfold fieldsR
  have h : onceN (ctTwo.fs.map fun f => f.f.name) = false := once_dup _
  rw [h, Bool.and_false, Bool.false_and]
theorem stages_st (fs : List Fld) (ms : List Mv) : stagesR ⟨⟨#[99]⟩, fs, [stgS, stgT], ms⟩ = true := by
  unfold stagesR
  have h : onceN ([stgS, stgT].map Stg.name) = true := once_st
  show ((decide (1 ≤ (([stgS, stgT].length : Nat) : Int)) && decide ((([stgS, stgT].length : Nat) : Int) ≤ 6)) && onceN ([stgS, stgT].map Stg.name) && [stgS, stgT].all stageR) = true
  rw [h, stgs_right]
  rfl
theorem check_con (v : Vl) (fs : List Fd) (hg : goodV v = true) : checkX (conX v) fs = (v.k, 0) := by
  unfold checkX
  rw [if_pos (show smallX (conX v) = true from rfl)]
  exact chk_con 5 v fs hg
theorem one_right : checkC ctOne = 0 := by
  have h4 : movesR ctOne = true := by
    have h1 : onceN (ctOne.ms.map Mv.name) = true := once_one _
    have h2 : moveR ctOne mvYes = true := by
      have ht : tellsR mvYes.guard (ctOne.fs.map Fld.f) 2 = true := by
        unfold tellsR
        rw [show checkX mvYes.guard (ctOne.fs.map Fld.f) = (2, 0) from check_con _ _ (good_truth true)]
        rfl
      unfold moveR
      rw [ht, show effsR (ctOne.fs.map Fld.f) mvYes.effs = true from rfl]
      rfl
    have h3 : ctOne.ms.all (moveR ctOne) = true := by
      show [mvYes].all (moveR ctOne) = true
      rw [List.all_cons, h2]; rfl
    unfold movesR
    rw [h1, h3]
    rfl
  unfold checkC
  rw [show nameB ctOne.name = true from rfl, show fieldsR ctOne = true from fields_one _ _, show stagesR ctOne = true from stages_st _ _, h4]
  rfl
theorem noS_wrong : checkC ctNoS = 61 := by
  unfold checkC
  rw [show nameB ctNoS.name = true from rfl, show fieldsR ctNoS = true from fields_one _ _, show stagesR ctNoS = false from rfl]
  rfl
theorem int_wrong : checkC ctInt = 62 := by
  have h4 : movesR ctInt = false := by
    have h2 : moveR ctInt mvInt = false := by
      have ht : tellsR mvInt.guard (ctInt.fs.map Fld.f) 2 = false := by
        unfold tellsR
        rw [show checkX mvInt.guard (ctInt.fs.map Fld.f) = (1, 0) from check_con _ _ (good_int 0)]
        rfl
      unfold moveR
      rw [ht, Bool.and_false, Bool.false_and]
    have h3 : ctInt.ms.all (moveR ctInt) = false := by
      show [mvInt].all (moveR ctInt) = false
      rw [List.all_cons, h2]; rfl
    unfold movesR
    rw [h3, Bool.and_false]
  unfold checkC
  rw [show nameB ctInt.name = true from rfl, show fieldsR ctInt = true from fields_one _ _, show stagesR ctInt = true from stages_st _ _, h4]
  rfl
theorem two_wrong : checkC ctTwo = 60 := by
  unfold checkC
  rw [show nameB ctTwo.name = true from rfl, fields_two]
  rfl
theorem i64_lit {n : Int} (h : -100 ≤ n) (h2 : n ≤ 100) : in64 n := by unfold in64; omega
theorem okX_con {v : Vl} (h : okV v) : ∀ k, okX k (conX v)
  | 0 => trivial
  | k + 1 => ⟨h, show in64 1 from i64_lit (by decide) (by decide), fun x hx => by cases hx⟩
theorem one_ok : okC ctOne := by
  refine ⟨fun f hf => ?_, fun s hs => ?_, fun m hm => ?_⟩
  · obtain rfl : f = fldN := by simpa [ctOne] using hf
    exact ⟨ok_int (i64_lit (by decide) (by decide)), i64_lit (by decide) (by decide)⟩
  · have : s = stgS ∨ s = stgT := by simpa [ctOne] using hs
    rcases this with rfl | rfl
    · exact ⟨i64_lit (by decide) (by decide), fun o ho => by cases ho⟩
    · refine ⟨i64_lit (by decide) (by decide), fun o ho => ?_⟩
      have : o = 0 ∨ o = 2 := by simpa [stgT] using ho
      rcases this with rfl | rfl <;> exact i64_lit (by decide) (by decide)
  · obtain rfl : m = mvYes := by simpa [ctOne] using hm
    exact ⟨i64_lit (by decide) (by decide), i64_lit (by decide) (by decide), i64_lit (by decide) (by decide), okX_con (ok_truth true), fun e he => by cases he⟩
theorem one_long : 20 < (putC ctOne).length := by
  rw [putC_good one_right]
  unfold ctrB listB
  simp only [List.length_append, texB_len, be_length]
  show 20 < 4 + 1 + (4 + ([fldN].flatMap fldB).length) + _ + _
  have h : 12 ≤ ([fldN].flatMap fldB).length := by
    rw [List.flatMap_cons, List.length_append]
    unfold fldB
    simp only [List.length_append, texB_len, intB_len]
    omega
  omega

/-! in memory -/
theorem at_row {w : World} {g : Nat} {cs : Array Value} {t : TypeId} (h : w.heap[g]? = some (.cells cs t (0, 0))) (i : Nat) (x : Value) (hx : cs[i]? = some x) : w.cell? ⟨g, i, none⟩ = some x := (cell_of_row w g i cs t (0, 0) h).trans hx
abbrev csN (A : Option Addr) (c : Nat) : List Value := [.string ⟨#[110]⟩, .int .i64 1, .slice A 0 c, .int .i64 1, .int .i64 0, .bool false, .string ⟨#[]⟩, .float .f64 0]
abbrev csM (tt : Int) (k : Int) (b : Bool) : List Value := [.string ⟨#[109]⟩, .int .i64 0, .int .i64 tt, .int .i64 1, .slice none 0 0, .string ⟨#[]⟩, .int .i64 k, .int .i64 0, .bool b, .string ⟨#[]⟩, .float .f64 0, .slice none 0 0, .int .i64 (-1)]
theorem ss_none (w : World) : Ss w (.slice none 0 0) [] := Rd.nil w
theorem fldk_rows (w : World) (g n : Nat) (t : TypeId) (A : Option Addr) (c : Nat) (hs : Ss w (.slice A 0 c) []) (hn : n ≤ 2) (h : w.heap[g]? = some (.cells (List.replicate n (csN A c)).flatten.toArray t (0, 0))) : FldK w (some ⟨g, 0, none⟩) n (List.replicate n fldN) := by
  have hlt : g < w.heap.size := (Array.getElem?_eq_some_iff.1 h).1
  refine ⟨by simp, by unfold maxLen; omega, fun h => (by cases h), fun j hj => ?_⟩
  have hj2 : j < n := by simpa using hj
  refine ⟨_, rfl, hlt, A, c, ?_, ?_⟩
  · rw [List.getElem_replicate, Addr.add_lit]
    have hc : ∀ i (x : Value), (csN A c)[i]? = some x → w.cell? ⟨g, 0 + j * 8 + i, none⟩ = some x := fun i x hx => at_row h _ x (by
      have hcase : (n = 1 ∧ j = 0) ∨ (n = 2 ∧ j = 0) ∨ (n = 2 ∧ j = 1) := by omega
      have hi : i < 8 := (List.getElem?_eq_some_iff.1 hx).1
      rcases hcase with ⟨rfl, rfl⟩ | ⟨rfl, rfl⟩ | ⟨rfl, rfl⟩
      all_goals
        match i, hi with
        | 0, _ => exact hx
        | 1, _ => exact hx
        | 2, _ => exact hx
        | 3, _ => exact hx
        | 4, _ => exact hx
        | 5, _ => exact hx
        | 6, _ => exact hx
        | 7, _ => exact hx)
    exact ⟨hc 0 _ rfl, hc 1 _ rfl, hc 2 _ rfl, hc 3 _ rfl, hc 4 _ rfl, hc 5 _ rfl, hc 6 _ rfl, hc 7 _ rfl⟩
  · rw [List.getElem_replicate]; exact hs
theorem mvk_row (w : World) (g : Nat) (t : TypeId) (tt k : Int) (b : Bool) (m : Mv) (hm : m = ⟨⟨#[109]⟩, 0, tt, conX ⟨k, 0, b, ⟨#[]⟩, 0⟩, [], -1⟩) (h : w.heap[g]? = some (.cells (csM tt k b).toArray t (0, 0))) : MvK w (some ⟨g, 0, none⟩) 1 [m] := by
  subst hm
  have hlt : g < w.heap.size := (Array.getElem?_eq_some_iff.1 h).1
  refine ⟨by simp, by unfold maxLen; omega, fun h => (by cases h), fun j hj => ?_⟩
  have hj2 : j = 0 := by have : j < 1 := hj; omega
  subst hj2
  refine ⟨_, rfl, hlt, none, 0, none, 0, at_row h 0 _ rfl, at_row h 1 _ rfl, at_row h 2 _ rfl, ?_, ExE.leaf w _ rfl, at_row h 11 _ rfl, at_row h 12 _ rfl, RowK.none _ _ _⟩
  exact ⟨at_row h 3 _ rfl, at_row h 4 _ rfl, at_row h 5 _ rfl, at_row h 6 _ rfl, at_row h 7 _ rfl, at_row h 8 _ rfl, at_row h 9 _ rfl, at_row h 10 _ rfl⟩
theorem stgk_row (w : World) (g gi : Nat) (t t' : TypeId) (hi : w.heap[gi]? = some (.cells #[.int .i64 0, .int .i64 2] t' (0, 0)))
    (h : w.heap[g]? = some (.cells #[.string ⟨#[115]⟩, .int .i64 0, .slice none 0 0, .string ⟨#[116]⟩, .int .i64 1, .slice (some ⟨gi, 0, none⟩) 2 2] t (0, 0))) : StgK w (some ⟨g, 0, none⟩) 2 [stgS, stgT] := by
  have hlt : g < w.heap.size := (Array.getElem?_eq_some_iff.1 h).1
  have hlti : gi < w.heap.size := (Array.getElem?_eq_some_iff.1 hi).1
  refine ⟨by simp, by unfold maxLen; omega, fun h => (by cases h), fun j hj => ?_⟩
  have hj2 : j < 2 := hj
  match j, hj2 with
  | 0, _ => exact ⟨_, rfl, hlt, none, 0, at_row h 0 _ rfl, at_row h 1 _ rfl, at_row h 2 _ rfl, Rd.nil w⟩
  | 1, _ =>
    refine ⟨_, rfl, hlt, some ⟨gi, 0, none⟩, 2, at_row h 3 _ rfl, at_row h 4 _ rfl, at_row h 5 _ rfl, ⟨_, 2, rfl, Nat.le_refl 2, by unfold maxLen; omega, (by intro h; cases h), fun _ => ⟨_, rfl, hlti, fun i u hu => ?_⟩⟩⟩
    rw [Addr.add_lit, Nat.zero_add]
    have hi2 : i < 2 := (List.getElem?_eq_some_iff.1 hu).1
    match i, hi2 with
    | 0, _ => exact at_row hi 0 _ hu
    | 1, _ => exact at_row hi 1 _ hu
/-- a contract is told -/
def CtP (c : Ctr) (w : World) (e : Ending) (w' : World) : Prop := ∃ FA fc SA sc MA mc, e = .returned (agC c.name FA c.fs.length fc SA c.ss.length sc MA c.ms.length mc) ∧ CtK w' c FA fc SA sc MA mc ∧ Below w.heap.size w w'
end Go.Proofs.YthgdnpcfdgimlabGreat

/- Layer 6: the law's One and awake. -/
namespace Go.Proofs.YthgdnpcfdgimlabGreat
open Go.RowKit
set_option linter.unusedVariables false
set_option linter.unusedSimpArgs false
set_option maxRecDepth 20000

theorem heap_old (w : World) (o : Obj) (k : Nat) (h : k < w.heap.size) : (w.alloc o).heap[k]? = w.heap[k]? := (alloc1 w o).block k h
theorem six_worlds (w : World) (o0 o1 o2 o3 o4 o5 : Obj) :
    ((((((w.alloc o0).alloc o1).alloc o2).alloc o3).alloc o4).alloc o5).heap[w.heap.size]? = some o0 ∧
    ((((((w.alloc o0).alloc o1).alloc o2).alloc o3).alloc o4).alloc o5).heap[w.heap.size + 1 + 1]? = some o2 ∧
    ((((((w.alloc o0).alloc o1).alloc o2).alloc o3).alloc o4).alloc o5).heap[w.heap.size + 1 + 1 + 1]? = some o3 ∧
    ((((((w.alloc o0).alloc o1).alloc o2).alloc o3).alloc o4).alloc o5).heap[w.heap.size + 1 + 1 + 1 + 1]? = some o4 ∧
    ((((((w.alloc o0).alloc o1).alloc o2).alloc o3).alloc o4).alloc o5).heap[w.heap.size + 1 + 1 + 1 + 1 + 1]? = some o5 ∧
    Below w.heap.size w ((((((w.alloc o0).alloc o1).alloc o2).alloc o3).alloc o4).alloc o5) := by
  have n0 := heap_alloc_new w o0
  have n2 := heap_alloc_new ((w.alloc o0).alloc o1) o2
  have n3 := heap_alloc_new (((w.alloc o0).alloc o1).alloc o2) o3
  have n4 := heap_alloc_new ((((w.alloc o0).alloc o1).alloc o2).alloc o3) o4
  have n5 := heap_alloc_new (((((w.alloc o0).alloc o1).alloc o2).alloc o3).alloc o4) o5
  simp only [World.size_alloc] at n2 n3 n4 n5
  refine ⟨?_, ?_, ?_, ?_, n5, bel2 (bel2 (bel2 (bel2 (bel2 (alloc1 _ _) (alloc1 _ _)) (alloc1 _ _)) (alloc1 _ _)) (alloc1 _ _)) (alloc1 _ _)⟩
  · rw [heap_old _ _ _ (by simp only [World.size_alloc]; omega), heap_old _ _ _ (by simp only [World.size_alloc]; omega), heap_old _ _ _ (by simp only [World.size_alloc]; omega), heap_old _ _ _ (by simp only [World.size_alloc]; omega), heap_old _ _ _ (by simp only [World.size_alloc]; omega)]; exact n0
  · rw [heap_old _ _ _ (by simp only [World.size_alloc]; omega), heap_old _ _ _ (by simp only [World.size_alloc]; omega), heap_old _ _ _ (by simp only [World.size_alloc]; omega)]; exact n2
  · rw [heap_old _ _ _ (by simp only [World.size_alloc]; omega), heap_old _ _ _ (by simp only [World.size_alloc]; omega)]; exact n3
  · rw [heap_old _ _ _ (by simp only [World.size_alloc]; omega)]; exact n4
set_option maxHeartbeats 2000000 in
theorem One_any (w : World) : Calls Tryz.prog 38 #[] w (CtP ctOne w) := by
  have hsf := fun (w : World) (a : Addr) (m : Mode) (b : Nat) => run_store Tryz.prog w a (.float .f64 b) m rfl
  go_enter Tryz.func38, Tryz.ntmps38
  go_wp2
  generalize ho0 : Obj.cells #[Value.string { data := #[99] }, Value.slice (some { block := w.heap.size + 1 + 1, off := 0 }) 1 1, Value.slice (some { block := w.heap.size + 1 + 1 + 1 + 1, off := 0 }) 2 2, Value.slice (some { block := w.heap.size + 1 + 1 + 1 + 1 + 1, off := 0 }) 1 1] 26 = o0
  generalize ho2 : Obj.cells #[Value.string { data := #[110] }, Value.int IntKind.i64 1, Value.slice none 0 0, Value.int IntKind.i64 1, Value.int IntKind.i64 0, Value.bool false, Value.string { data := #[] }, Value.float FloatKind.f64 0] 55 = o2
  generalize ho3 : Obj.cells #[Value.int IntKind.i64 0, Value.int IntKind.i64 2] 3 = o3
  generalize ho4 : Obj.cells #[Value.string { data := #[115] }, Value.int IntKind.i64 0, Value.slice none 0 0, Value.string { data := #[116] }, Value.int IntKind.i64 1, Value.slice (some { block := w.heap.size + 1 + 1 + 1, off := 0 }) 2 2] 69 = o4
  generalize ho5 : Obj.cells #[Value.string { data := #[109] }, Value.int IntKind.i64 0, Value.int IntKind.i64 1, Value.int IntKind.i64 1, Value.slice none 0 0, Value.string { data := #[] }, Value.int IntKind.i64 2, Value.int IntKind.i64 0, Value.bool true, Value.string { data := #[] }, Value.float FloatKind.f64 0, Value.slice none 0 0, Value.int IntKind.i64 (-1)] 61 = o5
  generalize hW : (w.alloc o0).alloc _ = W1
  obtain ⟨k0, k2, k3, k4, k5, hb⟩ := six_worlds w o0 (.cells #[Value.int IntKind.i64 1, Value.slice none 0 0, Value.string { data := #[] }, Value.int IntKind.i64 2, Value.int IntKind.i64 0, Value.bool true, Value.string { data := #[] }, Value.float FloatKind.f64 0] 58) o2 o3 o4 o5
  rw [hW] at k0 k2 k3 k4 k5 hb
  generalize ((((W1.alloc o2).alloc o3).alloc o4).alloc o5) = W at *
  rw [← ho0] at k0
  rw [← ho2] at k2
  rw [← ho3] at k3
  rw [← ho4] at k4
  rw [← ho5] at k5
  have hlt : w.heap.size < W.heap.size := (Array.getElem?_eq_some_iff.1 k0).1
  have v0 := at_row k0 0 _ rfl
  have v1 := at_row k0 1 _ rfl
  have v2 := at_row k0 2 _ rfl
  have v3 := at_row k0 3 _ rfl
  clear ho0 ho2 ho3 ho4 ho5 hW
  exact bodyPost_ret (v := agC ⟨#[99]⟩ (some ⟨w.heap.size + 1 + 1, 0, none⟩) 1 1 (some ⟨w.heap.size + 1 + 1 + 1 + 1, 0, none⟩) 2 2 (some ⟨w.heap.size + 1 + 1 + 1 + 1 + 1, 0, none⟩) 1 1) (by simp [results, Tryz.results38, go_sem, v0, v1, v2, v3, hlt]) rfl
    ⟨_, _, _, _, _, _, rfl, ⟨fldk_rows W _ 1 _ none 0 (ss_none W) (by omega) k2, stgk_row W _ _ _ _ k3 k4, mvk_row W _ _ 1 2 true mvYes rfl k5⟩, hb⟩
theorem four_worlds (w : World) (o0 o1 o2 o3 : Obj) :
    ((((w.alloc o0).alloc o1).alloc o2).alloc o3).heap[w.heap.size]? = some o0 ∧
    ((((w.alloc o0).alloc o1).alloc o2).alloc o3).heap[w.heap.size + 1]? = some o1 ∧
    ((((w.alloc o0).alloc o1).alloc o2).alloc o3).heap[w.heap.size + 1 + 1]? = some o2 ∧
    ((((w.alloc o0).alloc o1).alloc o2).alloc o3).heap[w.heap.size + 1 + 1 + 1]? = some o3 ∧
    Below w.heap.size w ((((w.alloc o0).alloc o1).alloc o2).alloc o3) := by
  have n0 := heap_alloc_new w o0
  have n1 := heap_alloc_new (w.alloc o0) o1
  have n2 := heap_alloc_new ((w.alloc o0).alloc o1) o2
  have n3 := heap_alloc_new (((w.alloc o0).alloc o1).alloc o2) o3
  simp only [World.size_alloc] at n1 n2 n3
  refine ⟨?_, ?_, ?_, n3, bel2 (bel2 (bel2 (alloc1 _ _) (alloc1 _ _)) (alloc1 _ _)) (alloc1 _ _)⟩
  · rw [heap_old _ _ _ (by simp only [World.size_alloc]; omega), heap_old _ _ _ (by simp only [World.size_alloc]; omega), heap_old _ _ _ (by simp only [World.size_alloc]; omega)]; exact n0
  · rw [heap_old _ _ _ (by simp only [World.size_alloc]; omega), heap_old _ _ _ (by simp only [World.size_alloc]; omega)]; exact n1
  · rw [heap_old _ _ _ (by simp only [World.size_alloc]; omega)]; exact n2
set_option maxHeartbeats 2000000 in
theorem awake6_any (w : World) : Calls Tryz.prog 12 #[] w (VMk (.bool true) w) := by
  have hsf := fun (w : World) (a : Addr) (m : Mode) (b : Nat) => run_store Tryz.prog w a (.float .f64 b) m rfl
  have HO := Lib.hid One_any
  go_enter Tryz.func12, Tryz.ntmps12
  go_wp2_with fail
  refine (HO.out _).mono ?_
  rintro e w1 ⟨F1, f1, S1, s1, M1, m1, rfl, hc1, hb1⟩
  have HC1 := Lib.hid hc1
  have HB1 := Lib.hid hb1
  clear hc1 hb1
  go_wp2_with fail
  refine (HO.out _).mono ?_
  rintro e w2 ⟨F2, f2, S2, s2, M2, m2, rfl, hc2, hb2⟩
  have HC2 := Lib.hid hc2
  have HB2 := Lib.hid hb2
  clear hc2 hb2
  go_wp2_with fail
  refine (HO.out _).mono ?_
  rintro e w3 ⟨F3, f3, S3, s3, M3, m3, rfl, hc3, hb3⟩
  have HC3 := Lib.hid hc3
  have HB3 := Lib.hid hb3
  clear hc3 hb3
  go_upto_region 5 with fail
  obtain ⟨fa, rfl, hfl, FA0, fc0, hfq, hfs⟩ := HC3.out.f.2.2.2 0 (by show 0 < 1; omega)
  have HFS := Lib.hid (show Ss w3 (.slice FA0 0 fc0) [] from hfs)
  clear hfs
  have hL1 : ctOne.fs.length = 1 := rfl
  have hL2 : ctOne.ss.length = 2 := rfl
  have hL3 : ctOne.ms.length = 1 := rfl
  have hN : ctOne.name = ⟨#[99]⟩ := rfl
  rw [hL1, hL2, hL3, hN]
  obtain ⟨k0, k1, k2, k3, hW⟩ := four_worlds w3 (.cells #[Value.string ⟨#[99]⟩, Value.slice F1 1 f1, Value.slice none 0 0, Value.slice none 0 0] 26) (.cells #[Value.string ⟨#[99]⟩, Value.slice F2 1 f2, Value.slice S2 2 s2, Value.slice (some { block := w3.heap.size + 1 + 1 + 1, off := 0 }) 1 1] 26) (.cells #[Value.string ⟨#[99]⟩, Value.slice (some fa) 1 f3, Value.slice S3 2 s3, Value.slice M3 1 m3] 26) (.cells (csM 0 1 false).toArray 61)
  have e0 : fa.add (0 * 8) = fa := by rw [Nat.zero_mul, Addr.add_zero']
  rw [e0] at hfq
  have hq := hfq.below hW hfl
  generalize hw4 : (((w3.alloc (.cells #[Value.string ⟨#[99]⟩, Value.slice F1 1 f1, Value.slice none 0 0, Value.slice none 0 0] 26)).alloc (.cells #[Value.string ⟨#[99]⟩, Value.slice F2 1 f2, Value.slice S2 2 s2, Value.slice (some { block := w3.heap.size + 1 + 1 + 1, off := 0 }) 1 1] 26)).alloc (.cells #[Value.string ⟨#[99]⟩, Value.slice (some fa) 1 f3, Value.slice S3 2 s3, Value.slice M3 1 m3] 26)).alloc (.cells (csM 0 1 false).toArray 61) = w4 at *
  have hsz : w4.heap.size = w3.heap.size + 1 + 1 + 1 + 1 := by rw [← hw4]; simp
  clear hw4 hfq
  have q0 : w4.cell? fa = some (.string ⟨#[110]⟩) := hq.1
  have q1 : w4.cell? ⟨fa.block, fa.off + 1, none⟩ = some (.int .i64 1) := hq.2.1
  have q2 : w4.cell? ⟨fa.block, fa.off + 2, none⟩ = some (.slice FA0 0 fc0) := hq.2.2.1
  have q3 : w4.cell? ⟨fa.block, fa.off + 3, none⟩ = some (.int .i64 1) := hq.2.2.2.1
  have q4 : w4.cell? ⟨fa.block, fa.off + 4, none⟩ = some (.int .i64 0) := hq.2.2.2.2.1
  have q5 : w4.cell? ⟨fa.block, fa.off + 5, none⟩ = some (.bool false) := hq.2.2.2.2.2.1
  have q6 : w4.cell? ⟨fa.block, fa.off + 6, none⟩ = some (.string ⟨#[]⟩) := hq.2.2.2.2.2.2.1
  have q7 : w4.cell? ⟨fa.block, fa.off + 7, none⟩ = some (.float .f64 0) := hq.2.2.2.2.2.2.2
  have p1 := at_row k2 1 _ rfl
  have pf : w4.frozen? ⟨w3.heap.size + 1 + 1, 1, none⟩ = false := by simp [World.frozen?, k2]
  have hb2 : w3.heap.size + 1 + 1 < w4.heap.size := by omega
  have K0 := Lib.hid k0
  have K1 := Lib.hid k1
  have K2 := Lib.hid k2
  have K3 := Lib.hid k3
  have HW4 := Lib.hid hW
  have HSZ := Lib.hid hsz
  clear k0 k1 k2 k3 hW hsz hq e0 hL1 hL2 hL3 hN hfl
  go_region
  have hb5 : Below w3.heap.size w3 ((w4.setCell { block := w3.heap.size + 1 + 1, off := 1 } (Value.slice (some { block := w4.heap.size, off := 0 }) 2 2)).alloc (Obj.cells #[.string ⟨#[110]⟩, .int .i64 1, .slice FA0 0 fc0, .int .i64 1, .int .i64 0, .bool false, .string ⟨#[]⟩, .float .f64 0, .string ⟨#[110]⟩, .int .i64 1, .slice FA0 0 fc0, .int .i64 1, .int .i64 0, .bool false, .string ⟨#[]⟩, .float .f64 0] 55)).drew :=
    ((HW4.out.setCell (p := ⟨w3.heap.size + 1 + 1, 1, none⟩) (by show w3.heap.size ≤ w3.heap.size + 1 + 1; omega) _).alloc (by rw [World.size_setCell]; have := HSZ.out; omega) _).drew
  have hx : ∀ k, k < w4.heap.size → k ≠ w3.heap.size + 1 + 1 → ((w4.setCell { block := w3.heap.size + 1 + 1, off := 1 } (Value.slice (some { block := w4.heap.size, off := 0 }) 2 2)).alloc (Obj.cells #[.string ⟨#[110]⟩, .int .i64 1, .slice FA0 0 fc0, .int .i64 1, .int .i64 0, .bool false, .string ⟨#[]⟩, .float .f64 0, .string ⟨#[110]⟩, .int .i64 1, .slice FA0 0 fc0, .int .i64 1, .int .i64 0, .bool false, .string ⟨#[]⟩, .float .f64 0] 55)).drew.heap[k]? = w4.heap[k]? := fun k hk hne => by
    show ((w4.setCell _ _).alloc _).heap[k]? = _
    rw [heap_old _ _ _ (by rw [World.size_setCell]; exact hk), Below.heap_setCell _ _ _ _ hne]
  have hR : ((w4.setCell { block := w3.heap.size + 1 + 1, off := 1 } (Value.slice (some { block := w4.heap.size, off := 0 }) 2 2)).alloc (Obj.cells #[.string ⟨#[110]⟩, .int .i64 1, .slice FA0 0 fc0, .int .i64 1, .int .i64 0, .bool false, .string ⟨#[]⟩, .float .f64 0, .string ⟨#[110]⟩, .int .i64 1, .slice FA0 0 fc0, .int .i64 1, .int .i64 0, .bool false, .string ⟨#[]⟩, .float .f64 0] 55)).drew.heap[w4.heap.size]? = some (Obj.cells #[.string ⟨#[110]⟩, .int .i64 1, .slice FA0 0 fc0, .int .i64 1, .int .i64 0, .bool false, .string ⟨#[]⟩, .float .f64 0, .string ⟨#[110]⟩, .int .i64 1, .slice FA0 0 fc0, .int .i64 1, .int .i64 0, .bool false, .string ⟨#[]⟩, .float .f64 0] 55) := by
    have h := heap_alloc_new (w4.setCell { block := w3.heap.size + 1 + 1, off := 1 } (Value.slice (some { block := w4.heap.size, off := 0 }) 2 2)) (Obj.cells #[.string ⟨#[110]⟩, .int .i64 1, .slice FA0 0 fc0, .int .i64 1, .int .i64 0, .bool false, .string ⟨#[]⟩, .float .f64 0, .string ⟨#[110]⟩, .int .i64 1, .slice FA0 0 fc0, .int .i64 1, .int .i64 0, .bool false, .string ⟨#[]⟩, .float .f64 0] 55)
    rw [World.size_setCell] at h
    exact h
  have hcs : ∀ j (x : Value), ([.string ⟨#[99]⟩, .slice (some ⟨w4.heap.size, 0, none⟩) 2 2, .slice S3 2 s3, .slice M3 1 m3] : List Value)[j]? = some x → ((w4.setCell { block := w3.heap.size + 1 + 1, off := 1 } (Value.slice (some { block := w4.heap.size, off := 0 }) 2 2)).alloc (Obj.cells #[.string ⟨#[110]⟩, .int .i64 1, .slice FA0 0 fc0, .int .i64 1, .int .i64 0, .bool false, .string ⟨#[]⟩, .float .f64 0, .string ⟨#[110]⟩, .int .i64 1, .slice FA0 0 fc0, .int .i64 1, .int .i64 0, .bool false, .string ⟨#[]⟩, .float .f64 0] 55)).drew.cell? ⟨w3.heap.size + 1 + 1, j, none⟩ = some x := fun j x hj => by
    show ((w4.setCell _ _).alloc _).cell? _ = _
    refine keepc (alloc1 _ _) (by rw [World.size_setCell]; exact hb2) ?_
    have hj4 : j < 4 := (List.getElem?_eq_some_iff.1 hj).1
    by_cases h1 : j = 1
    · subst h1
      injection hj with hj
      subst hj
      exact World.cell?_setCell_same w4 _ _ p1
    · rw [World.cell?_setCell_other w4 (a := ⟨w3.heap.size + 1 + 1, 1, none⟩) (b := ⟨w3.heap.size + 1 + 1, j, none⟩) _ (by intro e; injection e with _ e _; exact h1 e.symm)]
      match j, hj4, h1 with
      | 0, _, _ => exact at_row K2.out 0 _ hj
      | 2, _, _ => exact at_row K2.out 2 _ hj
      | 3, _, _ => exact at_row K2.out 3 _ hj
  generalize hW5 : ((w4.setCell { block := w3.heap.size + 1 + 1, off := 1 } (Value.slice (some { block := w4.heap.size, off := 0 }) 2 2)).alloc (Obj.cells #[.string ⟨#[110]⟩, .int .i64 1, .slice FA0 0 fc0, .int .i64 1, .int .i64 0, .bool false, .string ⟨#[]⟩, .float .f64 0, .string ⟨#[110]⟩, .int .i64 1, .slice FA0 0 fc0, .int .i64 1, .int .i64 0, .bool false, .string ⟨#[]⟩, .float .f64 0] 55)).drew = W5 at *
  have hlt5 : w3.heap.size + 1 + 1 < W5.heap.size := Nat.lt_trans hb2 (Array.getElem?_eq_some_iff.1 hR).1
  have h0 := (hx w3.heap.size (by have := HSZ.out; omega) (by omega)).trans K0.out
  have h1 := (hx (w3.heap.size + 1) (by have := HSZ.out; omega) (by omega)).trans K1.out
  have h3 := (hx (w3.heap.size + 1 + 1 + 1) (by have := HSZ.out; omega) (by omega)).trans K3.out
  have HA := Lib.hid (show BxA W5 w3.heap.size [.string ⟨#[99]⟩, .slice F1 1 f1, .slice none 0 0, .slice none 0 0] from ⟨by omega, fun j x hj => at_row h0 j x (by simpa using hj)⟩)
  have HB := Lib.hid (show BxA W5 (w3.heap.size + 1) [.string ⟨#[99]⟩, .slice F2 1 f2, .slice S2 2 s2, .slice (some ⟨w3.heap.size + 1 + 1 + 1, 0, none⟩) 1 1] from ⟨by omega, fun j x hj => at_row h1 j x (by simpa using hj)⟩)
  have HD := Lib.hid (show BxA W5 (w3.heap.size + 1 + 1) [.string ⟨#[99]⟩, .slice (some ⟨w4.heap.size, 0, none⟩) 2 2, .slice S3 2 s3, .slice M3 1 m3] from ⟨hlt5, hcs⟩)
  have HKA := Lib.hid (show CtK W5 ctNoS F1 f1 none 0 none 0 from ⟨(((HC1.out.below HB2.out).below HB3.out).below hb5).f, RowK.none _ _ _, RowK.none _ _ _⟩)
  have HKB := Lib.hid (show CtK W5 ctInt F2 f2 S2 s2 (some ⟨w3.heap.size + 1 + 1 + 1, 0, none⟩) 1 from ⟨((HC2.out.below HB3.out).below hb5).f, ((HC2.out.below HB3.out).below hb5).s, mvk_row W5 _ _ 0 1 false mvInt rfl h3⟩)
  have HKD := Lib.hid (show CtK W5 ctTwo (some ⟨w4.heap.size, 0, none⟩) 2 S3 s3 M3 m3 from ⟨fldk_rows W5 _ 2 _ FA0 fc0 (HFS.out.below hb5 (Nat.le_refl _)) (by omega) hR, (HC3.out.below hb5).s, (HC3.out.below hb5).m⟩)
  have HB5 := Lib.hid (bel2 (bel2 (bel2 HB1.out HB2.out) HB3.out) hb5)
  clear h0 h1 h3 hx hR hcs hW5 hb5 hlt5 K0 K1 K2 K3 HFS HW4 HSZ HC1 HC2 HC3 HB1 HB2 HB3 q0 q1 q2 q3 q4 q5 q6 q7 p1 pf hb2
  go_wp2_with fail
  refine (HO.out _).mono ?_
  rintro e w6 ⟨F6, f6, S6, s6, M6, m6, rfl, hc6, hb6⟩
  have H6 := Lib.hid (And.intro hc6 hb6)
  clear hc6 hb6
  go_wp2_with fail
  refine (cCheck_any ctOne F6 f6 S6 s6 M6 m6 w6 H6.out.1).mono ?_
  rintro e w7 ⟨he, hb7⟩
  rw [one_right] at he
  subst he
  have H7 := Lib.hid (bel2 H6.out.2 hb7)
  clear H6 hb7
  go_wp2_with fail
  refine (HO.out _).mono ?_
  rintro e w8 ⟨F8, f8, S8, s8, M8, m8, rfl, hc8, hb8⟩
  have H8 := Lib.hid (And.intro hc8 (bel2 H7.out hb8))
  clear hc8 hb8 H7
  go_wp2_with fail
  refine (cPut_any ctOne F8 f8 S8 s8 M8 m8 (.slice none 0 0) [] w8 H8.out.1 one_ok (Bs.nil _) (by simp)).mono ?_
  rintro e w9 ⟨v9, B9, rfl, -, ho9, hb9⟩
  rw [List.nil_append] at ho9
  obtain ⟨A9, c9, rfl, -⟩ := (own_bs ho9).open
  have hlong : (20 : Int) < (((putC ctOne).length : Nat) : Int) := by have := one_long; omega
  have H9 := Lib.hid (bel2 H8.out.2 hb9)
  clear ho9 hb9 H8
  generalize (putC ctOne).length = plen at *
  have a0 := (HA.out.below H9.out).2 0 _ rfl
  have a1 := (HA.out.below H9.out).2 1 _ rfl
  have a2 := (HA.out.below H9.out).2 2 _ rfl
  have a3 := (HA.out.below H9.out).2 3 _ rfl
  go_wp2_with fail
  refine (cCheck_any ctNoS F1 f1 none 0 none 0 w9 (HKA.out.below H9.out)).mono ?_
  rintro e w10 ⟨he, hb10⟩
  rw [noS_wrong] at he
  subst he
  have H10 := Lib.hid (bel2 H9.out hb10)
  clear hb10 H9 a0 a1 a2 a3
  have a0 := (HB.out.below H10.out).2 0 _ rfl
  have a1 := (HB.out.below H10.out).2 1 _ rfl
  have a2 := (HB.out.below H10.out).2 2 _ rfl
  have a3 := (HB.out.below H10.out).2 3 _ rfl
  go_wp2_with fail
  refine (cCheck_any ctInt F2 f2 S2 s2 (some ⟨w3.heap.size + 1 + 1 + 1, 0, none⟩) 1 w10 (HKB.out.below H10.out)).mono ?_
  rintro e w11 ⟨he, hb11⟩
  rw [int_wrong] at he
  subst he
  have H11 := Lib.hid (bel2 H10.out hb11)
  clear hb11 H10 a0 a1 a2 a3
  have a0 := (HD.out.below H11.out).2 0 _ rfl
  have a1 := (HD.out.below H11.out).2 1 _ rfl
  have a2 := (HD.out.below H11.out).2 2 _ rfl
  have a3 := (HD.out.below H11.out).2 3 _ rfl
  go_wp2_with fail
  refine (cCheck_any ctTwo (some ⟨w4.heap.size, 0, none⟩) 2 S3 s3 M3 m3 w11 (HKD.out.below H11.out)).mono ?_
  rintro e w12 ⟨he, hb12⟩
  rw [two_wrong] at he
  subst he
  have H12 := Lib.hid (bel2 H11.out hb12)
  clear hb12 H11 a0 a1 a2 a3
  go_wp2_with fail
  refine (HO.out _).mono ?_
  rintro e w13 ⟨F13, f13, S13, s13, M13, m13, rfl, hc13, hb13⟩
  have H13 := Lib.hid (And.intro hc13 (bel2 H12.out hb13))
  clear hc13 hb13 H12
  go_wp2_with fail
  refine (cStage_any ctOne F13 f13 S13 s13 M13 m13 ⟨#[116]⟩ w13 H13.out.1).mono ?_
  rintro e w14 ⟨he, hb14⟩
  rw [show placeN ⟨#[116]⟩ (ctOne.ss.map fun x => x.name) 0 = 1 from place_t] at he
  subst he
  go_wp2
  go_ret
  exact ⟨ret_bool (by first | rfl | simp), bel2 (bel2 HB5.out H13.out.2) hb14⟩
end Go.Proofs.YthgdnpcfdgimlabGreat

/- Layer 6: are a contract's parts few (made by gen/gencfew.py). -/
namespace Go.Proofs.YthgdnpcfdgimlabGreat
open Go.RowKit
set_option linter.unusedVariables false
set_option linter.unusedSimpArgs false
set_option maxRecDepth 20000

/-- a truth is told -/
def TellB (w : World) (e : Ending) (w' : World) : Prop := ∃ b, e = .returned (.bool b) ∧ Below w.heap.size w w'
set_option maxHeartbeats 4000000 in
theorem few6_any (ct : Ctr) (FA : Option Addr) (fc : Nat) (SA : Option Addr) (sc : Nat) (MA : Option Addr) (mc : Nat) (w : World) (h : CtK w ct FA fc SA sc MA mc) :
    Calls Tryz.prog 9 #[agC ct.name FA ct.fs.length fc SA ct.ss.length sc MA ct.ms.length mc] w (TellB w) := by
  have HB0 := Lib.hid (alloc1 w (bxC ct.name FA ct.fs.length fc SA ct.ss.length sc MA ct.ms.length mc))
  have HC := Lib.hid (BxA.new w (csC ct.name FA ct.fs.length fc SA ct.ss.length sc MA ct.ms.length mc) 26)
  have hfl := h.f.2.1
  have hfl1 := h.f.1
  have hsl := h.s.2.1
  have hsl1 := h.s.1
  have hml := h.m.2.1
  have hml1 := h.m.1
  unfold maxLen at hfl hsl hml
  have hflen : ct.fs.length ≤ 9223372036854775807 := by omega
  have hslen : ct.ss.length ≤ 9223372036854775807 := by omega
  have hmlen : ct.ms.length ≤ 9223372036854775807 := by omega
  have HF := Lib.hid h.f.2.2.2
  have HS := Lib.hid h.s.2.2.2
  have HM := Lib.hid h.m.2.2.2
  clear h hfl hfl1 hsl hsl1 hml hml1
  have hsf := fun (w : World) (a : Addr) (m : Mode) (b : Nat) => run_store Tryz.prog w a (.float .f64 b) m rfl
  go_enter Tryz.func9, Tryz.ntmps9
  go_upto_region 1 with fail
  generalize hw0 : w.alloc (bxC ct.name FA ct.fs.length fc SA ct.ss.length sc MA ct.ms.length mc) = w0 at *
  clear hw0
  have c0 := HC.out.2 0 _ rfl
  have c1 := HC.out.2 1 _ rfl
  have c2 := HC.out.2 2 _ rfl
  have c3 := HC.out.2 3 _ rfl
  by_cases g0 : (200 : Int) < (ct.name.size : Int)
  · have gd : decide ((200 : Int) < (ct.name.size : Int)) = true := decide_eq_true g0
    go_wp2
    go_ret
    exact ⟨false, rfl, HB0.out⟩
  have gd0 : decide ((200 : Int) < (ct.name.size : Int)) = false := decide_eq_false g0
  by_cases g1 : (30 : Int) < (ct.fs.length : Int)
  · have gd : decide ((30 : Int) < (ct.fs.length : Int)) = true := decide_eq_true g1
    go_wp2
    go_ret
    exact ⟨false, rfl, HB0.out⟩
  have gd1 : decide ((30 : Int) < (ct.fs.length : Int)) = false := decide_eq_false g1
  by_cases g2 : (30 : Int) < (ct.ss.length : Int)
  · have gd : decide ((30 : Int) < (ct.ss.length : Int)) = true := decide_eq_true g2
    go_wp2
    go_ret
    exact ⟨false, rfl, HB0.out⟩
  have gd2 : decide ((30 : Int) < (ct.ss.length : Int)) = false := decide_eq_false g2
  by_cases g3 : (30 : Int) < (ct.ms.length : Int)
  · have gd : decide ((30 : Int) < (ct.ms.length : Int)) = true := decide_eq_true g3
    go_wp2
    go_ret
    exact ⟨false, rfl, HB0.out⟩
  have gd3 : decide ((30 : Int) < (ct.ms.length : Int)) = false := decide_eq_false g3
  go_wp2
  clear g0 g1 g2 g3 gd0 gd1 gd2 gd3
  go_loopw [3] (fun i wr => ∃ k : Nat, k ≤ ct.fs.length ∧ i = .int .i64 k ∧ w0 = wr) (fun i _ => ct.fs.length - (intOf i).toNat)
  case atStart => exact ⟨0, Nat.zero_le _, rfl, by trivial⟩
  case round =>
    obtain ⟨k, hk, rfl, rfl⟩ := hrel
    by_cases hlt : k < ct.fs.length
    case pos =>
      have hltI : (k : Int) < (ct.fs.length : Int) := by omega
      obtain ⟨ad, rfl, hbl, A, c, hq, -⟩ := HF.out k hlt
      have hq2 := hq.below HB0.out (by rw [block_add]; exact hbl)
      generalize ct.fs[k] = x at *
      have q0 := hq2.1
      have q2 := hq2.2.2.1
      have q6 := hq2.2.2.2.2.2.2.1
      clear hq hq2
      by_cases e0 : (200 : Int) < (x.f.name.size : Int)
      · have ed : decide ((200 : Int) < (x.f.name.size : Int)) = true := decide_eq_true e0
        go_wp2
        go_ret
        exact ⟨false, rfl, HB0.out⟩
      have ed0 : decide ((200 : Int) < (x.f.name.size : Int)) = false := decide_eq_false e0
      by_cases e1 : (30 : Int) < (x.en.length : Int)
      · have ed : decide ((30 : Int) < (x.en.length : Int)) = true := decide_eq_true e1
        go_wp2
        go_ret
        exact ⟨false, rfl, HB0.out⟩
      have ed1 : decide ((30 : Int) < (x.en.length : Int)) = false := decide_eq_false e1
      by_cases e2 : (200 : Int) < (x.y.s.size : Int)
      · have ed : decide ((200 : Int) < (x.y.s.size : Int)) = true := decide_eq_true e2
        go_wp2
        go_ret
        exact ⟨false, rfl, HB0.out⟩
      have ed2 : decide ((200 : Int) < (x.y.s.size : Int)) = false := decide_eq_false e2
      go_wp2
      go_roundw
      case rel => exact ⟨k + 1, by omega, by go_num, by trivial⟩
      case measure => simp [intOf]; omega
    case neg =>
      obtain rfl : k = ct.fs.length := by omega
      have hltI : ¬ (ct.fs.length : Int) < (ct.fs.length : Int) := by omega
      go_wp2
      go_loopw [4] (fun i wr => ∃ k : Nat, k ≤ ct.ss.length ∧ i = .int .i64 k ∧ w0 = wr) (fun i _ => ct.ss.length - (intOf i).toNat)
      case atStart => exact ⟨0, Nat.zero_le _, rfl, by trivial⟩
      case round =>
        obtain ⟨k, hk, rfl, rfl⟩ := hrel
        by_cases hlt : k < ct.ss.length
        case pos =>
          have hltI : (k : Int) < (ct.ss.length : Int) := by omega
          obtain ⟨ad, rfl, hbl, hp⟩ := HS.out k hlt
          have hp2 := hp.below HB0.out (by rw [block_add]; exact hbl)
          generalize ct.ss[k] = x at *
          obtain ⟨A, c, -, -, q2, -⟩ := hp2
          clear hp
          by_cases e0 : (30 : Int) < (x.orgs.length : Int)
          · have ed : decide ((30 : Int) < (x.orgs.length : Int)) = true := decide_eq_true e0
            go_wp2
            go_ret
            exact ⟨false, rfl, HB0.out⟩
          have ed0 : decide ((30 : Int) < (x.orgs.length : Int)) = false := decide_eq_false e0
          go_wp2
          go_roundw
          case rel => exact ⟨k + 1, by omega, by go_num, by trivial⟩
          case measure => simp [intOf]; omega
        case neg =>
          obtain rfl : k = ct.ss.length := by omega
          have hltI : ¬ (ct.ss.length : Int) < (ct.ss.length : Int) := by omega
          go_wp2
          go_loopw [5] (fun i wr => ∃ k : Nat, k ≤ ct.ms.length ∧ i = .int .i64 k ∧ w0 = wr) (fun i _ => ct.ms.length - (intOf i).toNat)
          case atStart => exact ⟨0, Nat.zero_le _, rfl, by trivial⟩
          case round =>
            obtain ⟨k, hk, rfl, rfl⟩ := hrel
            by_cases hlt : k < ct.ms.length
            case pos =>
              have hltI : (k : Int) < (ct.ms.length : Int) := by omega
              obtain ⟨ad, rfl, hbl, hp⟩ := HM.out k hlt
              have hp2 := hp.below HB0.out (by rw [block_add]; exact hbl)
              generalize ct.ms[k] = x at *
              obtain ⟨A, c, EA, ec, -, -, -, -, -, q11, -, -⟩ := hp2
              clear hp
              by_cases e0 : (30 : Int) < (x.effs.length : Int)
              · have ed : decide ((30 : Int) < (x.effs.length : Int)) = true := decide_eq_true e0
                go_wp2
                go_ret
                exact ⟨false, rfl, HB0.out⟩
              have ed0 : decide ((30 : Int) < (x.effs.length : Int)) = false := decide_eq_false e0
              go_wp2
              go_roundw
              case rel => exact ⟨k + 1, by omega, by go_num, by trivial⟩
              case measure => simp [intOf]; omega
            case neg =>
              obtain rfl : k = ct.ms.length := by omega
              have hltI : ¬ (ct.ms.length : Int) < (ct.ms.length : Int) := by omega
              go_wp2
              go_ret
              exact ⟨true, rfl, HB0.out⟩
end Go.Proofs.YthgdnpcfdgimlabGreat

/- Layer 6: what is read of a contract, in new memory. -/
namespace Go.Proofs.YthgdnpcfdgimlabGreat
open Go.RowKit
set_option linter.unusedVariables false
set_option linter.unusedSimpArgs false
set_option maxRecDepth 20000

/-- the row (A, its length, c) of parts of K cells, in a block of S; R: what each is at its place -/
def RowN {α : Type} (S : Nat → Prop) (w : World) (K : Nat) (R : World → Addr → α → Prop) (A : Option Addr) (c : Nat) (l : List α) : Prop :=
  l.length ≤ c ∧ c ≤ maxLen ∧ (A = none → c = 0) ∧ ∀ j (hj : j < l.length), ∃ b, A = some ⟨b, 0, none⟩ ∧ b < w.heap.size ∧ S b ∧ R w ⟨b, j * K, none⟩ l[j]
theorem RowN.nil {α : Type} (S : Nat → Prop) (w : World) (K : Nat) (R : World → Addr → α → Prop) : RowN S w K R none 0 [] := ⟨Nat.le_refl _, Nat.zero_le _, fun _ => rfl, fun j hj => absurd hj (Nat.not_lt_zero _)⟩
theorem RowN.row {α : Type} {S : Nat → Prop} {w : World} {K : Nat} {R R' : World → Addr → α → Prop} (hR : ∀ p x, R w p x → R' w p x) {A : Option Addr} {c : Nat} {l : List α} (h : RowN S w K R A c l) : RowK w K R' A c l := by
  obtain ⟨h1, h2, h3, h4⟩ := h
  refine ⟨h1, h2, h3, fun j hj => ?_⟩
  obtain ⟨b, e1, e2, -, e3⟩ := h4 j hj
  refine ⟨_, e1, e2, ?_⟩
  rw [Addr.add_lit, Nat.zero_add]
  exact hR _ _ e3
/-- what lies in S stays where S's blocks do -/
abbrev Kept (S T : Nat → Prop) (w w' : World) : Prop := ∀ b, S b → b < w.heap.size → w'.heap[b]? = w.heap[b]? ∧ T b
theorem RowN.move {α : Type} {S T : Nat → Prop} {w w' : World} {K : Nat} {R R' : World → Addr → α → Prop} (h : Kept S T w w') (hz : w.heap.size ≤ w'.heap.size) (hR : ∀ (b o : Nat) (x : α), w'.heap[b]? = w.heap[b]? → R w ⟨b, o, none⟩ x → R' w' ⟨b, o, none⟩ x) {A : Option Addr} {c : Nat} {l : List α} (hx : RowN S w K R A c l) : RowN T w' K R' A c l := by
  obtain ⟨h1, h2, h3, h4⟩ := hx
  refine ⟨h1, h2, h3, fun j hj => ?_⟩
  obtain ⟨b, e1, e2, e3, e4⟩ := h4 j hj
  obtain ⟨f1, f2⟩ := h b e3 e2
  exact ⟨b, e1, Nat.lt_of_lt_of_le e2 hz, f2, hR b _ _ f1 e4⟩
/-- an own row -/
theorem rowN_own {α β : Type} {T : Nat → Prop} {w : World} {base : Nat} {t : TypeId} {K : Nat} {v : Value} {n : Nat} (cells : β → List Value) (hK : ∀ q, (cells q).length = K) (hpos : 0 < K) (val : β → α) {R : World → Addr → α → Prop} {qs : List β} (h : w.ownsRow base t K v n (qs.flatMap cells)) (hT : ∀ b, base ≤ b → T b)
    (hR : ∀ q ∈ qs, ∀ b i : Nat, (∀ o, o < K → w.cell? ⟨b, i + o, none⟩ = (cells q)[o]?) → R w ⟨b, i, none⟩ (val q)) : ∃ A c, v = .slice A (qs.map val).length c ∧ RowN T w K R A c (qs.map val) := by
  have hl := h.1
  rw [flat_len cells K hK] at hl
  have hn : n = qs.length := (Nat.eq_of_mul_eq_mul_right hpos hl).symm
  subst hn
  rcases h.2 with ⟨rfl, h0⟩ | ⟨g, cap, cur, rfl, hbase, hg, hc, hm, hcs, ht⟩
  · have : qs = [] := List.eq_nil_of_length_eq_zero h0
    subst this
    exact ⟨none, 0, rfl, RowN.nil _ _ _ _⟩
  · refine ⟨some ⟨g, 0, none⟩, cap, by rw [List.length_map], by rw [List.length_map]; exact hc, hm, fun h => (by cases h), fun j hj => ?_⟩
    have hjl : j < qs.length := by simpa using hj
    refine ⟨g, rfl, (Array.getElem?_eq_some_iff.1 hg).1, hT g hbase, ?_⟩
    rw [List.getElem_map]
    refine hR _ (List.getElem_mem hjl) g _ fun o ho => ?_
    have hlt : j * K + o < qs.length * K := by
      have : (j + 1) * K ≤ qs.length * K := Nat.mul_le_mul_right _ hjl
      rw [Nat.add_mul] at this
      omega
    rw [cell_of_row w g _ _ _ (0, 0) hg, ← flat_get cells K hK qs j o hjl ho, ← ht, List.getElem?_take, if_pos hlt, Array.getElem?_toList]

/-! texts, ints -/
def StrP (w : World) (p : Addr) (s : ByteArray) : Prop := w.cell? p = some (.string s)
def IntP (w : World) (p : Addr) (n : Int) : Prop := w.cell? p = some (.int .i64 n)
abbrev strC (s : ByteArray) : List Value := [.string s]
abbrev intC (n : Int) : List Value := [.int .i64 n]
theorem StrP.at {w w' : World} (b o : Nat) (x : ByteArray) (h : w'.heap[b]? = w.heap[b]?) (hx : StrP w ⟨b, o, none⟩ x) : StrP w' ⟨b, o, none⟩ x := (World.cell?_of_block (a := ⟨b, o, none⟩) h).trans hx
theorem IntP.at {w w' : World} (b o : Nat) (x : Int) (h : w'.heap[b]? = w.heap[b]?) (hx : IntP w ⟨b, o, none⟩ x) : IntP w' ⟨b, o, none⟩ x := (World.cell?_of_block (a := ⟨b, o, none⟩) h).trans hx
theorem rd_rowN {α : Type} {S : Nat → Prop} {w : World} {A : Option Addr} {c : Nat} {l : List α} (val : α → Value) (h : RowN S w 1 (fun w p x => w.cell? p = some (val x)) A c l) : Rd w (.slice A l.length c) (l.map val) := by
  obtain ⟨h1, h2, h3, h4⟩ := h
  refine ⟨A, c, by rw [List.length_map], by rw [List.length_map]; exact h1, h2, h3, fun hne => ?_⟩
  have hl : 0 < l.length := by
    rcases l with _ | ⟨x, l⟩
    · exact absurd rfl hne
    · simp
  obtain ⟨b, e1, e2, -, -⟩ := h4 0 hl
  refine ⟨_, e1, e2, fun j u hj => ?_⟩
  rw [List.getElem?_map] at hj
  by_cases hjl : j < l.length
  · rw [List.getElem?_eq_getElem hjl] at hj
    obtain ⟨b2, f1, -, -, f2⟩ := h4 j hjl
    rw [e1] at f1
    injection f1 with f1
    injection f1 with f1
    subst f1
    rw [Addr.add_lit, Nat.zero_add]
    rw [Nat.mul_one] at f2
    rw [f2]
    exact hj
  · rw [List.getElem?_eq_none (Nat.le_of_not_lt hjl)] at hj
    cases hj
abbrev TxN (S : Nat → Prop) (w : World) (A : Option Addr) (c : Nat) (l : List ByteArray) : Prop := RowN S w 1 StrP A c l
abbrev IsN (S : Nat → Prop) (w : World) (A : Option Addr) (c : Nat) (l : List Int) : Prop := RowN S w 1 IntP A c l
theorem TxN.ss {S : Nat → Prop} {w : World} {A : Option Addr} {c : Nat} {l : List ByteArray} (h : TxN S w A c l) : Ss w (.slice A l.length c) l := rd_rowN Value.string h
theorem IsN.is {S : Nat → Prop} {w : World} {A : Option Addr} {c : Nat} {l : List Int} (h : IsN S w A c l) : Is w (.slice A l.length c) l := rd_rowN (Value.int .i64) h
theorem TxN.move {S T : Nat → Prop} {w w' : World} (h : Kept S T w w') (hz : w.heap.size ≤ w'.heap.size) {A : Option Addr} {c : Nat} {l : List ByteArray} (hx : TxN S w A c l) : TxN T w' A c l := RowN.move h hz (fun b o x hb hp => hp.at b o x hb) hx
theorem IsN.move {S T : Nat → Prop} {w w' : World} (h : Kept S T w w') (hz : w.heap.size ≤ w'.heap.size) {A : Option Addr} {c : Nat} {l : List Int} (hx : IsN S w A c l) : IsN T w' A c l := RowN.move h hz (fun b o x hb hp => hp.at b o x hb) hx

/-! fields -/
structure FldX where
  f : Fld
  A : Option Addr
  c : Nat
def FldX.cells (q : FldX) : List Value := [.string q.f.f.name, .int .i64 q.f.f.kind, .slice q.A q.f.en.length q.c, .int .i64 q.f.y.k, .int .i64 q.f.y.i, .bool q.f.y.b, .string q.f.y.s, .float .f64 q.f.y.n]
def FldX.ok (S : Nat → Prop) (w : World) (q : FldX) : Prop := TxN S w q.A q.c q.f.en
/-- a field at p, its texts in S -/
def FldQ (S : Nat → Prop) (w : World) (p : Addr) (f : Fld) : Prop := ∃ A c, Fdp w p f.f.name f.f.kind A f.en.length c f.y ∧ TxN S w A c f.en
theorem FldQ.fldp {S : Nat → Prop} {w : World} {p : Addr} {f : Fld} (h : FldQ S w p f) : FldP w p f := by
  obtain ⟨A, c, h1, h2⟩ := h
  exact ⟨A, c, h1, h2.ss⟩
theorem Fdp.at {w w' : World} {p : Addr} {nm : ByteArray} {fk : Int} {A : Option Addr} {n c : Nat} {y : Vl} (h : Fdp w p nm fk A n c y) (hb : w'.heap[p.block]? = w.heap[p.block]?) : Fdp w' p nm fk A n c y := by
  obtain ⟨h0, h1, h2, h3, h4, h5, h6, h7⟩ := h
  have k : ∀ o, w'.cell? ⟨p.block, o, none⟩ = w.cell? ⟨p.block, o, none⟩ := fun o => World.cell?_of_block (a := ⟨p.block, o, none⟩) hb
  exact ⟨(World.cell?_of_block hb).trans h0, (k _).trans h1, (k _).trans h2, (k _).trans h3, (k _).trans h4, (k _).trans h5, (k _).trans h6, (k _).trans h7⟩
abbrev FldN (S : Nat → Prop) (w : World) (A : Option Addr) (c : Nat) (l : List Fld) : Prop := RowN S w 8 (FldQ S) A c l
theorem FldN.move {S T : Nat → Prop} {w w' : World} (h : Kept S T w w') (hz : w.heap.size ≤ w'.heap.size) {A : Option Addr} {c : Nat} {l : List Fld} (hx : FldN S w A c l) : FldN T w' A c l :=
  RowN.move h hz (fun b o x hb hp => by obtain ⟨A, c, h1, h2⟩ := hp; exact ⟨A, c, h1.at hb, h2.move h hz⟩) hx
theorem FldN.k {S : Nat → Prop} {w : World} {A : Option Addr} {c : Nat} {l : List Fld} (h : FldN S w A c l) : FldK w A c l := RowN.row (fun p x h => h.fldp) h
theorem fldN_own {S T : Nat → Prop} {w : World} {base : Nat} {t : TypeId} {v : Value} {n : Nat} {qs : List FldX} (h : w.ownsRow base t 8 v n (qs.flatMap FldX.cells)) (hk : ∀ q ∈ qs, q.ok S w) (hST : ∀ b, S b → T b) (hT : ∀ b, base ≤ b → T b) : ∃ A c, v = .slice A (qs.map FldX.f).length c ∧ FldN T w A c (qs.map FldX.f) :=
  rowN_own FldX.cells (fun _ => rfl) (by decide) FldX.f h hT fun q hq b i hc => ⟨q.A, q.c, ⟨hc 0 (by omega), hc 1 (by omega), hc 2 (by omega), hc 3 (by omega), hc 4 (by omega), hc 5 (by omega), hc 6 (by omega), hc 7 (by omega)⟩, TxN.move (fun b hb _ => ⟨rfl, hST b hb⟩) (Nat.le_refl _) (hk q hq)⟩

/-! stages -/
structure StgX where
  s : Stg
  A : Option Addr
  c : Nat
def StgX.cells (q : StgX) : List Value := [.string q.s.name, .int .i64 q.s.need, .slice q.A q.s.orgs.length q.c]
def StgX.ok (S : Nat → Prop) (w : World) (q : StgX) : Prop := IsN S w q.A q.c q.s.orgs
def StgQ (S : Nat → Prop) (w : World) (p : Addr) (s : Stg) : Prop := ∃ A c, w.cell? p = some (.string s.name) ∧ w.cell? ⟨p.block, p.off + 1, none⟩ = some (.int .i64 s.need) ∧ w.cell? ⟨p.block, p.off + 2, none⟩ = some (.slice A s.orgs.length c) ∧ IsN S w A c s.orgs
theorem StgQ.stgp {S : Nat → Prop} {w : World} {p : Addr} {s : Stg} (h : StgQ S w p s) : StgP w p s := by
  obtain ⟨A, c, h1, h2, h3, h4⟩ := h
  exact ⟨A, c, h1, h2, h3, h4.is⟩
theorem cellAt {w w' : World} {p : Addr} {o : Nat} {x : Value} (hb : w'.heap[p.block]? = w.heap[p.block]?) (h : w.cell? ⟨p.block, o, none⟩ = some x) : w'.cell? ⟨p.block, o, none⟩ = some x := (World.cell?_of_block (a := ⟨p.block, o, none⟩) hb).trans h
theorem cellAt0 {w w' : World} {p : Addr} {x : Value} (hb : w'.heap[p.block]? = w.heap[p.block]?) (h : w.cell? p = some x) : w'.cell? p = some x := (World.cell?_of_block hb).trans h
abbrev StgN (S : Nat → Prop) (w : World) (A : Option Addr) (c : Nat) (l : List Stg) : Prop := RowN S w 3 (StgQ S) A c l
theorem StgN.move {S T : Nat → Prop} {w w' : World} (h : Kept S T w w') (hz : w.heap.size ≤ w'.heap.size) {A : Option Addr} {c : Nat} {l : List Stg} (hx : StgN S w A c l) : StgN T w' A c l :=
  RowN.move h hz (fun b o x hb hp => by obtain ⟨A, c, h1, h2, h3, h4⟩ := hp; exact ⟨A, c, cellAt0 hb h1, cellAt (p := ⟨b, o, none⟩) hb h2, cellAt (p := ⟨b, o, none⟩) hb h3, h4.move h hz⟩) hx
theorem StgN.k {S : Nat → Prop} {w : World} {A : Option Addr} {c : Nat} {l : List Stg} (h : StgN S w A c l) : StgK w A c l := RowN.row (fun p x h => h.stgp) h
theorem stgN_own {S T : Nat → Prop} {w : World} {base : Nat} {t : TypeId} {v : Value} {n : Nat} {qs : List StgX} (h : w.ownsRow base t 3 v n (qs.flatMap StgX.cells)) (hk : ∀ q ∈ qs, q.ok S w) (hST : ∀ b, S b → T b) (hT : ∀ b, base ≤ b → T b) : ∃ A c, v = .slice A (qs.map StgX.s).length c ∧ StgN T w A c (qs.map StgX.s) :=
  rowN_own StgX.cells (fun _ => rfl) (by decide) StgX.s h hT fun q hq b i hc => ⟨q.A, q.c, hc 0 (by omega), hc 1 (by omega), hc 2 (by omega), IsN.move (fun b hb _ => ⟨rfl, hST b hb⟩) (Nat.le_refl _) (hk q hq)⟩

/-! effects -/
structure EffX where
  e : Eff
  A : Option Addr
  c : Nat
def EffX.cells (q : EffX) : List Value := [.string q.e.field, .int .i64 q.e.e.op, .slice q.A q.e.e.kids.length q.c, .string q.e.e.name, .int .i64 q.e.e.val.k, .int .i64 q.e.e.val.i, .bool q.e.e.val.b, .string q.e.e.val.s, .float .f64 q.e.e.val.n]
def EffX.ok (S : Nat → Prop) (w : World) (q : EffX) : Prop := ExS S w 6 q.A q.c q.e.e
def EffQ (S : Nat → Prop) (w : World) (p : Addr) (e : Eff) : Prop := ∃ A c, w.cell? p = some (.string e.field) ∧ Kid w ⟨p.block, p.off + 1, none⟩ e.e.op A e.e.kids.length c e.e.name e.e.val ∧ ExS S w 6 A c e.e
theorem EffQ.effp {S : Nat → Prop} {w : World} {p : Addr} {e : Eff} (h : EffQ S w p e) : EffP w p e := by
  obtain ⟨A, c, h1, h2, h3⟩ := h
  exact ⟨A, c, h1, h2, 6, h3.exk⟩
abbrev EffN (S : Nat → Prop) (w : World) (A : Option Addr) (c : Nat) (l : List Eff) : Prop := RowN S w 9 (EffQ S) A c l
theorem EffN.move {S T : Nat → Prop} {w w' : World} (h : Kept S T w w') (hz : w.heap.size ≤ w'.heap.size) {A : Option Addr} {c : Nat} {l : List Eff} (hx : EffN S w A c l) : EffN T w' A c l :=
  RowN.move h hz (fun b o x hb hp => by obtain ⟨A, c, h1, h2, h3⟩ := hp; exact ⟨A, c, cellAt0 hb h1, h2.at hb, h3.move h hz⟩) hx
theorem EffN.k {S : Nat → Prop} {w : World} {A : Option Addr} {c : Nat} {l : List Eff} (h : EffN S w A c l) : EffK w A c l := RowN.row (fun p x h => h.effp) h
theorem effN_own {S T : Nat → Prop} {w : World} {base : Nat} {t : TypeId} {v : Value} {n : Nat} {qs : List EffX} (h : w.ownsRow base t 9 v n (qs.flatMap EffX.cells)) (hk : ∀ q ∈ qs, q.ok S w) (hST : ∀ b, S b → T b) (hT : ∀ b, base ≤ b → T b) : ∃ A c, v = .slice A (qs.map EffX.e).length c ∧ EffN T w A c (qs.map EffX.e) :=
  rowN_own EffX.cells (fun _ => rfl) (by decide) EffX.e h hT fun q hq b i hc => ⟨q.A, q.c, hc 0 (by omega), ⟨hc 1 (by omega), hc 2 (by omega), hc 3 (by omega), hc 4 (by omega), hc 5 (by omega), hc 6 (by omega), hc 7 (by omega), hc 8 (by omega)⟩, (hk q hq).move (fun b hb _ => ⟨rfl, hST b hb⟩) (Nat.le_refl _)⟩

/-! moves -/
structure MvX where
  m : Mv
  A : Option Addr
  c : Nat
  EA : Option Addr
  ec : Nat
def MvX.cells (q : MvX) : List Value := [.string q.m.name, .int .i64 q.m.frm, .int .i64 q.m.too, .int .i64 q.m.guard.op, .slice q.A q.m.guard.kids.length q.c, .string q.m.guard.name, .int .i64 q.m.guard.val.k, .int .i64 q.m.guard.val.i, .bool q.m.guard.val.b, .string q.m.guard.val.s, .float .f64 q.m.guard.val.n, .slice q.EA q.m.effs.length q.ec, .int .i64 q.m.org]
def MvX.ok (S : Nat → Prop) (w : World) (q : MvX) : Prop := ExS S w 6 q.A q.c q.m.guard ∧ EffN S w q.EA q.ec q.m.effs
def MvQ (S : Nat → Prop) (w : World) (p : Addr) (m : Mv) : Prop := ∃ A c EA ec, w.cell? p = some (.string m.name) ∧ w.cell? ⟨p.block, p.off + 1, none⟩ = some (.int .i64 m.frm) ∧ w.cell? ⟨p.block, p.off + 2, none⟩ = some (.int .i64 m.too) ∧
  Kid w ⟨p.block, p.off + 3, none⟩ m.guard.op A m.guard.kids.length c m.guard.name m.guard.val ∧ ExS S w 6 A c m.guard ∧
  w.cell? ⟨p.block, p.off + 11, none⟩ = some (.slice EA m.effs.length ec) ∧ w.cell? ⟨p.block, p.off + 12, none⟩ = some (.int .i64 m.org) ∧ EffN S w EA ec m.effs
theorem MvQ.mvp {S : Nat → Prop} {w : World} {p : Addr} {m : Mv} (h : MvQ S w p m) : MvP w p m := by
  obtain ⟨A, c, EA, ec, h0, h1, h2, h3, h4, h5, h6, h7⟩ := h
  exact ⟨A, c, EA, ec, h0, h1, h2, h3, ⟨6, h4.exk⟩, h5, h6, h7.k⟩
abbrev MvN (S : Nat → Prop) (w : World) (A : Option Addr) (c : Nat) (l : List Mv) : Prop := RowN S w 13 (MvQ S) A c l
theorem MvN.move {S T : Nat → Prop} {w w' : World} (h : Kept S T w w') (hz : w.heap.size ≤ w'.heap.size) {A : Option Addr} {c : Nat} {l : List Mv} (hx : MvN S w A c l) : MvN T w' A c l :=
  RowN.move h hz (fun b o x hb hp => by
    obtain ⟨A, c, EA, ec, h0, h1, h2, h3, h4, h5, h6, h7⟩ := hp
    exact ⟨A, c, EA, ec, cellAt0 hb h0, cellAt (p := ⟨b, o, none⟩) hb h1, cellAt (p := ⟨b, o, none⟩) hb h2, h3.at hb, h4.move h hz, cellAt (p := ⟨b, o, none⟩) hb h5, cellAt (p := ⟨b, o, none⟩) hb h6, h7.move h hz⟩) hx
theorem MvN.k {S : Nat → Prop} {w : World} {A : Option Addr} {c : Nat} {l : List Mv} (h : MvN S w A c l) : MvK w A c l := RowN.row (fun p x h => h.mvp) h
theorem mvN_own {S T : Nat → Prop} {w : World} {base : Nat} {t : TypeId} {v : Value} {n : Nat} {qs : List MvX} (h : w.ownsRow base t 13 v n (qs.flatMap MvX.cells)) (hk : ∀ q ∈ qs, q.ok S w) (hST : ∀ b, S b → T b) (hT : ∀ b, base ≤ b → T b) : ∃ A c, v = .slice A (qs.map MvX.m).length c ∧ MvN T w A c (qs.map MvX.m) :=
  rowN_own MvX.cells (fun _ => rfl) (by decide) MvX.m h hT fun q hq b i hc => ⟨q.A, q.c, q.EA, q.ec, hc 0 (by omega), hc 1 (by omega), hc 2 (by omega), ⟨hc 3 (by omega), hc 4 (by omega), hc 5 (by omega), hc 6 (by omega), hc 7 (by omega), hc 8 (by omega), hc 9 (by omega), hc 10 (by omega)⟩, (hk q hq).1.move (fun b hb _ => ⟨rfl, hST b hb⟩) (Nat.le_refl _), hc 11 (by omega), hc 12 (by omega), (hk q hq).2.move (fun b hb _ => ⟨rfl, hST b hb⟩) (Nat.le_refl _)⟩
end Go.Proofs.YthgdnpcfdgimlabGreat

/- Layer 6: contracts that are read, by definition: there and back. -/
namespace Go.Proofs.YthgdnpcfdgimlabGreat
open Go.RowKit
set_option linter.unusedVariables false
set_option linter.unusedSimpArgs false

/-- so many, one behind the other -/
def getN {α : Type} (G : List UInt8 → Except Int (α × List UInt8)) : Nat → List UInt8 → Except Int (List α × List UInt8)
  | 0, r => .ok ([], r)
  | n + 1, r => match G r with
    | .error e => .error e
    | .ok (x, r1) => match getN G n r1 with
      | .error e => .error e
      | .ok (l, r2) => .ok (x :: l, r2)
/-- a list whose count was read -/
def getS {α : Type} (G : List UInt8 → Except Int (α × List UInt8)) (q : Nat × List UInt8 × Int) : Except Int (List α × List UInt8) := if q.2.2 = 0 then getN G q.1 q.2.1 else .error q.2.2
def okT (q : List UInt8 × List UInt8 × Int) : Except Int (ByteArray × List UInt8) := if q.2.2 = 0 then .ok (strB q.1, q.2.1) else .error q.2.2
def okI (q : Nat × List UInt8 × Int) : Except Int (Int × List UInt8) := if q.2.2 = 0 then .ok (wrap64 (q.1 : Int), q.2.1) else .error q.2.2
def gText (r : List UInt8) : Except Int (ByteArray × List UInt8) := okT (bytesF 32 r 0)
def gInt (r : List UInt8) : Except Int (Int × List UInt8) := okI (stepF 8 alInt r 0)
def okF (nm : ByteArray) (k : Int) (L : Except Int (List ByteArray × List UInt8)) (V : List UInt8 → Except Int (Vl × List UInt8)) : Except Int (Fld × List UInt8) := match L with
  | .error e => .error e
  | .ok (en, r) => match V r with
    | .error e => .error e
    | .ok (v, r2) => .ok (⟨⟨nm, k⟩, en, v⟩, r2)
def gVal (r : List UInt8) : Except Int (Vl × List UInt8) := if getE r 0 = 0 then .ok (getV r 0, (readF r 0).2.1) else .error (getE r 0)
def gFld (r : List UInt8) : Except Int (Fld × List UInt8) :=
  okF (strB (bytesF 16 r 0).1) (wrap64 ((stepF 8 alInt (bytesF 16 r 0).2.1 (bytesF 16 r 0).2.2).1 : Int)) (getS gText (stepF 4 (alCount 4) (stepF 8 alInt (bytesF 16 r 0).2.1 (bytesF 16 r 0).2.2).2.1 (stepF 8 alInt (bytesF 16 r 0).2.1 (bytesF 16 r 0).2.2).2.2)) gVal
def okS (nm : ByteArray) (k : Int) (L : Except Int (List Int × List UInt8)) : Except Int (Stg × List UInt8) := match L with
  | .error e => .error e
  | .ok (og, r) => .ok (⟨nm, k, og⟩, r)
def gStg (r : List UInt8) : Except Int (Stg × List UInt8) :=
  okS (strB (bytesF 16 r 0).1) (wrap64 ((stepF 8 alInt (bytesF 16 r 0).2.1 (bytesF 16 r 0).2.2).1 : Int)) (getS gInt (stepF 4 (alCount 4) (stepF 8 alInt (bytesF 16 r 0).2.1 (bytesF 16 r 0).2.2).2.1 (stepF 8 alInt (bytesF 16 r 0).2.1 (bytesF 16 r 0).2.2).2.2))
def okE (nm : ByteArray) (X : Except Int (Ex × Int × List UInt8)) : Except Int (Eff × List UInt8) := match X with
  | .error e => .error e
  | .ok (x, _, r) => .ok (⟨nm, x⟩, r)
def gEff (r : List UInt8) : Except Int (Eff × List UInt8) := okE (strB (bytesF 16 r 0).1) (getXE (bytesF 16 r 0).2.1 (bytesF 16 r 0).2.2)
def okM (nm : ByteArray) (f t o : Int) (X : Except Int (Ex × Int × List UInt8)) (L : List UInt8 → Except Int (List Eff × List UInt8)) : Except Int (Mv × List UInt8) := match X with
  | .error e => .error e
  | .ok (x, _, r) => match L r with
    | .error e => .error e
    | .ok (es, r2) => .ok (⟨nm, f, t, x, es, o⟩, r2)
def gEffs (r : List UInt8) : Except Int (List Eff × List UInt8) := getS gEff (stepF 4 (alCount 4) r 0)
/-- a name and three ints -/
def gHead (r : List UInt8) : List UInt8 × Int × Int × Int × List UInt8 × Int :=
  let a := bytesF 16 r 0
  let b := stepF 8 alInt a.2.1 a.2.2
  let c := stepF 8 alInt b.2.1 b.2.2
  let d := stepF 8 alInt c.2.1 c.2.2
  (a.1, wrap64 (b.1 : Int), wrap64 (c.1 : Int), wrap64 (d.1 : Int), d.2.1, d.2.2)
def mvOf (h : List UInt8 × Int × Int × Int × List UInt8 × Int) (X : List UInt8 → Int → Except Int (Ex × Int × List UInt8)) (L : List UInt8 → Except Int (List Eff × List UInt8)) : Except Int (Mv × List UInt8) := okM (strB h.1) h.2.1 h.2.2.1 h.2.2.2.1 (X h.2.2.2.2.1 h.2.2.2.2.2) L
def gMv (r : List UInt8) : Except Int (Mv × List UInt8) := mvOf (gHead r) getXE gEffs
/-- the three lists -/
def gLists (nm : ByteArray) (F : Except Int (List Fld × List UInt8)) (S : List UInt8 → Except Int (List Stg × List UInt8)) (M : List UInt8 → Except Int (List Mv × List UInt8)) : Except Int (Ctr × List UInt8) := match F with
  | .error e => .error e
  | .ok (fs, r) => match S r with
    | .error e => .error e
    | .ok (ss, r2) => match M r2 with
      | .error e => .error e
      | .ok (ms, r3) => .ok (⟨nm, fs, ss, ms⟩, r3)
def gStgs (r : List UInt8) : Except Int (List Stg × List UInt8) := getS gStg (stepF 4 (alCount 6) r 0)
def gMvs (r : List UInt8) : Except Int (List Mv × List UInt8) := getS gMv (stepF 4 (alCount 8) r 0)
def gFlds (r : List UInt8) (e : Int) : Except Int (List Fld × List UInt8) := getS gFld (stepF 4 (alCount 6) r e)
def gCtr (r : List UInt8) (e : Int) : Except Int (Ctr × List UInt8) := gLists (strB (bytesF 16 r e).1) (gFlds (bytesF 16 r e).2.1 (bytesF 16 r e).2.2) gStgs gMvs
/-- 6.2 -/
def okC2 (X : Except Int (Ctr × List UInt8)) : Except Int (Ctr × List UInt8) := match X with
  | .error e => .error e
  | .ok (c, r) => if checkC c = 0 then .ok (c, r) else .error 12
def getC (r : List UInt8) (e : Int) : Except Int (Ctr × List UInt8) := okC2 (gCtr r e)

/-! there and back -/
def normF (f : Fld) : Fld := ⟨f.f, f.en, normV f.y⟩
def normE (e : Eff) : Eff := ⟨e.field, normX 6 e.e⟩
def normM (m : Mv) : Mv := ⟨m.name, m.frm, m.too, normX 6 m.guard, m.effs.map normE, m.org⟩
def normC (c : Ctr) : Ctr := ⟨c.name, c.fs.map normF, c.ss, c.ms.map normM⟩

theorem getN_back {α : Type} (G : List UInt8 → Except Int (α × List UInt8)) (put : α → List UInt8) (nm : α → α) : ∀ (l : List α) (rest : List UInt8), (∀ x ∈ l, ∀ rest, G (put x ++ rest) = .ok (nm x, rest)) → getN G l.length (l.flatMap put ++ rest) = .ok (l.map nm, rest)
  | [], rest, _ => rfl
  | x :: l, rest, h => by
    rw [List.length_cons, List.flatMap_cons, List.append_assoc, getN, h x (List.mem_cons_self ..)]
    dsimp only
    rw [getN_back G put nm l rest fun y hy => h y (List.mem_cons_of_mem _ hy)]
    rfl
theorem step_cnt (most : Int) (n : Nat) (rest : List UInt8) (h : (n : Int) ≤ most) (h2 : n ≤ 1000) : stepF 4 (alCount most) (be 4 n ++ rest) 0 = (n, rest, 0) :=
  stepF_be 4 _ _ _ (by omega) (by unfold alCount ceilE; rw [if_neg (by omega)])
theorem getS_back {α : Type} (most : Int) (G : List UInt8 → Except Int (α × List UInt8)) (put : α → List UInt8) (nm : α → α) (l : List α) (rest : List UInt8) (hl : (l.length : Int) ≤ most) (hm : most ≤ 1000) (h : ∀ x ∈ l, ∀ rest, G (put x ++ rest) = .ok (nm x, rest)) : getS G (stepF 4 (alCount most) (listB put l ++ rest) 0) = .ok (l.map nm, rest) := by
  unfold listB
  rw [List.append_assoc, step_cnt most l.length _ hl (by omega)]
  unfold getS
  rw [if_pos rfl]
  exact getN_back G put nm l rest h
theorem str_tex (s : ByteArray) : strB s.data.toList = s := (strB_of s).symm
theorem gText_back (s : ByteArray) (rest : List UInt8) (h : s.data.toList.length ≤ 32) : gText (texB s ++ rest) = .ok (s, rest) := by
  unfold gText texB
  rw [bytes_32 _ _ h]
  unfold okT
  rw [if_pos rfl, str_tex]
theorem gInt_back (n : Int) (rest : List UInt8) (h : in64 n) : gInt (intB n ++ rest) = .ok (n, rest) := by
  unfold gInt intB
  rw [step_int]
  unfold okI
  rw [if_pos rfl, wrap_w64 n h.1 h.2]
theorem gVal_back (v : Vl) (rest : List UInt8) (hok : okV v) (hg : goodV v = true) : gVal (valB v ++ rest) = .ok (normV v, rest) := by
  obtain ⟨h1, h2, h3, -⟩ := val_got v rest hok hg
  unfold gVal
  rw [h2, if_pos rfl, h1, h3]
theorem okF_ok {nm : ByteArray} {k : Int} {en : List ByteArray} {r r2 : List UInt8} {V : List UInt8 → Except Int (Vl × List UInt8)} {v : Vl} (h : V r = .ok (v, r2)) : okF nm k (.ok (en, r)) V = .ok (⟨⟨nm, k⟩, en, v⟩, r2) := by
  unfold okF
  simp only [h]
theorem gFld_back (f : Fld) (rest : List UInt8) (h : FldS f) (hok : okV f.y) (hk : in64 f.f.kind) : gFld (fldB f ++ rest) = .ok (normF f, rest) := by
  have e : fldB f ++ rest = be 4 f.f.name.data.toList.length ++ f.f.name.data.toList ++ (be 8 (w64 f.f.kind) ++ (listB texB f.en ++ (valB f.y ++ rest))) := by unfold fldB texB intB; simp only [List.append_assoc]
  rw [e]
  unfold gFld
  rw [bytes_16 _ _ h.nm]
  dsimp only
  rw [step_int]
  dsimp only
  rw [getS_back 4 gText texB (fun x => x) f.en _ (by have := h.en; omega) (by omega) (fun s hs r => gText_back s r (h.tx s hs))]
  rw [okF_ok (gVal_back f.y rest hok h.gd), str_tex, wrap_w64 _ hk.1 hk.2, List.map_id']
  rfl
theorem gStg_back (s : Stg) (rest : List UInt8) (h : StgS s) (hk : in64 s.need) (ho : ∀ o ∈ s.orgs, in64 o) : gStg (stgB s ++ rest) = .ok (s, rest) := by
  have e : stgB s ++ rest = be 4 s.name.data.toList.length ++ s.name.data.toList ++ (be 8 (w64 s.need) ++ (listB intB s.orgs ++ rest)) := by unfold stgB texB intB; simp only [List.append_assoc]
  rw [e]
  unfold gStg
  rw [bytes_16 _ _ h.nm]
  dsimp only
  rw [step_int]
  dsimp only
  rw [getS_back 4 gInt intB (fun x => x) s.orgs _ (by have := h.og; omega) (by omega) (fun o hs r => gInt_back o r (ho o hs))]
  unfold okS
  dsimp only
  rw [str_tex, wrap_w64 _ hk.1 hk.2, List.map_id']
theorem getXE_back {e : Ex} {fs : List Fd} {k : Int} (l : List UInt8) (h : ExS6 e fs k) : getXE (putE e ++ l) 0 = .ok (normX 6 e, 24 - sizeX 6 e, l) := get_back l h.sm h.fm
theorem gEff_back {fs : List Fd} (e : Eff) (rest : List UInt8) (h : EffS fs e) : gEff (effB e ++ rest) = .ok (normE e, rest) := by
  have e1 : effB e ++ rest = be 4 e.field.data.toList.length ++ e.field.data.toList ++ (putE e.e ++ rest) := by unfold effB texB; simp only [List.append_assoc]
  rw [e1]
  unfold gEff
  rw [bytes_16 _ _ h.fd]
  dsimp only
  rw [getXE_back rest h.ex]
  unfold okE
  dsimp only
  rw [str_tex]
  rfl
theorem gMv_back {ct : Ctr} (m : Mv) (rest : List UInt8) (h : MvS ct m) (h1 : in64 m.frm) (h2 : in64 m.too) (h3 : in64 m.org) : gMv (mvB m ++ rest) = .ok (normM m, rest) := by
  have e1 : mvB m ++ rest = be 4 m.name.data.toList.length ++ m.name.data.toList ++ (be 8 (w64 m.frm) ++ (be 8 (w64 m.too) ++ (be 8 (w64 m.org) ++ (putE m.guard ++ (listB effB m.effs ++ rest))))) := by unfold mvB texB intB; simp only [List.append_assoc]
  rw [e1]
  have hh : gHead (be 4 m.name.data.toList.length ++ m.name.data.toList ++ (be 8 (w64 m.frm) ++ (be 8 (w64 m.too) ++ (be 8 (w64 m.org) ++ (putE m.guard ++ (listB effB m.effs ++ rest)))))) = (m.name.data.toList, m.frm, m.too, m.org, putE m.guard ++ (listB effB m.effs ++ rest), 0) := by
    unfold gHead
    dsimp only
    rw [bytes_16 _ _ h.nm]
    dsimp only
    rw [step_int]
    dsimp only
    rw [step_int]
    dsimp only
    rw [step_int]
    dsimp only
    rw [wrap_w64 _ h1.1 h1.2, wrap_w64 _ h2.1 h2.2, wrap_w64 _ h3.1 h3.2]
  unfold gMv
  rw [hh]
  unfold mvOf
  dsimp only
  rw [getXE_back _ h.gd]
  unfold okM gEffs
  dsimp only
  have hl := getS_back 4 gEff effB normE m.effs rest (by have := h.ef; omega) (by omega) (fun e he r => gEff_back e r (h.es e he))
  rw [hl, str_tex]
  rfl
theorem gCtr_back (c : Ctr) (rest : List UInt8) (hok : okC c) (h : CtrS c) : gCtr (ctrB c ++ rest) 0 = .ok (normC c, rest) := by
  have e1 : ctrB c ++ rest = be 4 c.name.data.toList.length ++ c.name.data.toList ++ (listB fldB c.fs ++ (listB stgB c.ss ++ (listB mvB c.ms ++ rest))) := by unfold ctrB texB; simp only [List.append_assoc]
  rw [e1]
  unfold gCtr
  rw [bytes_16 _ _ h.nm]
  unfold gFlds
  dsimp only
  have h1 := getS_back 6 gFld fldB normF c.fs (listB stgB c.ss ++ (listB mvB c.ms ++ rest)) (by have := h.fn; omega) (by omega) (fun f hf r => gFld_back f r (h.fs f hf) (hok.y f hf).1 (hok.y f hf).2)
  have h2 := getS_back 6 gStg stgB (fun x => x) c.ss (listB mvB c.ms ++ rest) (by have := h.sn; omega) (by omega) (fun f hf r => gStg_back f r (h.ss f hf) (hok.s f hf).1 (hok.s f hf).2)
  have h3 := getS_back 8 gMv mvB normM c.ms rest (by have := h.mn; omega) (by omega) (fun m hm r => gMv_back m r (h.ms m hm) (hok.m m hm).1 (hok.m m hm).2.1 (hok.m m hm).2.2.1)
  rw [h1]
  unfold gLists
  dsimp only
  unfold gStgs gMvs
  rw [h2]
  dsimp only
  rw [h3, str_tex, List.map_id']
  rfl
end Go.Proofs.YthgdnpcfdgimlabGreat

/- Layer 6: what is read of what was put is right, too, and is put alike. -/
namespace Go.Proofs.YthgdnpcfdgimlabGreat
open Go.RowKit
set_option linter.unusedVariables false
set_option linter.unusedSimpArgs false

theorem normV_n (v : Vl) : numW (normV v).n = numW v.n := by
  unfold normV
  dsimp only
  split
  · exact numW_numW v.n
  · rfl
theorem sameV_normL (v z : Vl) : sameV (normV v) z = sameV v z := by
  unfold sameV
  rw [normV_n]
  rfl
theorem good_norm (v : Vl) : goodV (normV v) = goodV v := by
  unfold goodV normV
  by_cases h : v.k = 4
  · simp [h]
  · simp [h]
theorem fits_norm (v : Vl) (k : Int) (l : List ByteArray) : fitsV (normV v) k l = fitsV v k l := by
  unfold fitsV
  rw [good_norm]
  rfl
theorem valB_norm (v : Vl) : valB (normV v) = valB v := by
  unfold valB
  rw [normV_n]
  rfl
theorem okV_norm {v : Vl} (h : okV v) : okV (normV v) := by
  refine ⟨h.1, h.2.1, ?_⟩
  unfold normV
  dsimp only
  split
  · exact numW_lt _ h.2.2
  · exact h.2.2
theorem normX_kids (d : Nat) (e : Ex) : (normX (d + 1) e).kids = e.kids.map (normX d) := rfl
theorem putX_norm : ∀ d e, putX d (normX d e) = putX d e
  | 0, e => rfl
  | d + 1, e => by
    unfold putX
    rw [normX_kids, List.length_map, List.flatMap_map]
    have h : (fun k => putX d (normX d k)) = putX d := funext fun k => putX_norm d k
    show be 8 (w64 e.op) ++ (be 4 e.kids.length ++ ((be 4 e.name.data.toList.length ++ e.name.data.toList) ++ (valB (normV e.val) ++ e.kids.flatMap (fun k => putX d (normX d k))))) = _
    rw [valB_norm, h]
theorem small_normB (e : Ex) : smallX (normX 6 e) = smallX e := by
  cases h : smallX e with
  | true => exact small_norm h
  | false =>
    cases h2 : smallX (normX 6 e) with
    | false => rfl
    | true =>
      exfalso
      obtain ⟨h3, h4⟩ := (smallX_iff _).1 h2
      have hb : ∀ d e, deepX d (normX d e) → deepX d e := by
        intro d
        induction d with
        | zero => intro e h; exact h
        | succ d ih =>
          intro e h k hk
          have h5 : ∀ k ∈ e.kids.map (normX d), deepX d k := h
          exact ih k (h5 _ (List.mem_map.2 ⟨k, hk, rfl⟩))
      rw [normX_size] at h4
      rw [(smallX_iff e).2 ⟨hb 6 e h3, h4⟩] at h
      cases h
theorem putE_norm (e : Ex) : putE (normX 6 e) = putE e := by
  unfold putE
  rw [small_normB, putX_norm]
theorem kindX_norm (d : Nat) (e : Ex) (l : List Int) (fs : List Fd) : kindX (normX (d + 1) e) l fs = kindX e l fs := by
  have h1 : (normX (d + 1) e).op = e.op := rfl
  have h2 : (normX (d + 1) e).name = e.name := rfl
  have h3 : (normX (d + 1) e).val = normV e.val := rfl
  have h4 : (normX (d + 1) e).kids.length = e.kids.length := by rw [normX_kids, List.length_map]
  have h5 : (normV e.val).k = e.val.k := rfl
  unfold kindX
  simp only [h1, h2, h3, h4, h5, sameV_normL, good_norm]
theorem chkL_normc (f g : Ex → Int × Int) (n : Ex → Ex) (h : ∀ e, f (n e) = g e) : ∀ ks : List Ex, chkL f (ks.map n) = chkL g ks
  | [] => rfl
  | k :: ks => by
    rw [List.map_cons, chkL, chkL, h k, chkL_normc f g n h ks]
theorem chkX_norm (fs : List Fd) : ∀ d e, chkX d (normX d e) fs = chkX d e fs
  | 0, e => rfl
  | d + 1, e => by
    unfold chkX
    rw [normX_kids, chkL_normc (fun k => chkX d k fs) (fun k => chkX d k fs) (normX d) (fun k => chkX_norm fs d k), kindX_norm]
theorem checkX_norm (e : Ex) (fs : List Fd) : checkX (normX 6 e) fs = checkX e fs := by
  unfold checkX
  rw [small_normB, chkX_norm]
theorem okX_norm : ∀ (d : Nat) (e : Ex), (∀ k, okX k e) → ∀ k, okX k (normX d e)
  | _, _, _, 0 => trivial
  | 0, e, h, k + 1 => h (k + 1)
  | d + 1, e, h, k + 1 => by
    obtain ⟨h1, h2, -⟩ := h 1
    refine ⟨okV_norm h1, h2, fun y hy => ?_⟩
    rw [normX_kids] at hy
    obtain ⟨x, hx, rfl⟩ := List.mem_map.1 hy
    exact okX_norm d x (fun j => (h (j + 1)).2.2 x hx) k
theorem fields_norm (fs : List Fld) : (fs.map normF).map Fld.f = fs.map Fld.f := by rw [List.map_map]; rfl
theorem field_norm (f : Fld) : fieldR (normF f) = fieldR f := by
  unfold fieldR
  have h : fitsV (normF f).y (normF f).f.kind (normF f).en = fitsV f.y f.f.kind f.en := fits_norm f.y _ _
  rw [h]
  rfl
theorem tells_norm (e : Ex) (fs : List Fd) (k : Int) : tellsR (normX 6 e) fs k = tellsR e fs k := by
  unfold tellsR
  rw [checkX_norm]
theorem eff_norm (fs : List Fd) (e : Eff) : effR fs (normE e) = effR fs e := by
  unfold effR
  have h : (normE e).e = normX 6 e.e := rfl
  rw [h, tells_norm]
  rfl
theorem effs_norm (fs : List Fd) (es : List Eff) : effsR fs (es.map normE) = effsR fs es := by
  have h1 : (es.map normE).map Eff.field = es.map Eff.field := by rw [List.map_map]; rfl
  have h2 : (es.map normE).all (effR fs) = es.all (effR fs) := by
    rw [List.all_map]
    exact congrArg (fun p => es.all p) (funext fun e => eff_norm fs e)
  unfold effsR
  rw [List.length_map, h1, h2]
theorem move_norm (c : Ctr) (m : Mv) : moveR (normC c) (normM m) = moveR c m := by
  have h1 : (normC c).fs.map Fld.f = c.fs.map Fld.f := fields_norm c.fs
  have h2 : (normM m).guard = normX 6 m.guard := rfl
  have h3 : (normM m).effs = m.effs.map normE := rfl
  unfold moveR
  rw [h1, h2, h3, tells_norm, effs_norm]
  rfl
theorem fieldsR_norm (c : Ctr) : fieldsR (normC c) = fieldsR c := by
  have h0 : (normC c).fs = c.fs.map normF := rfl
  have h1 : (c.fs.map normF).map (fun f => f.f.name) = c.fs.map (fun f => f.f.name) := by rw [List.map_map]; rfl
  have h2 : (c.fs.map normF).all fieldR = c.fs.all fieldR := by
    rw [List.all_map]
    exact congrArg (fun p => c.fs.all p) (funext fun e => field_norm e)
  unfold fieldsR
  rw [h0, List.length_map, h1, h2]
theorem movesR_norm (c : Ctr) : movesR (normC c) = movesR c := by
  have h0 : (normC c).ms = c.ms.map normM := rfl
  have h1 : (c.ms.map normM).map Mv.name = c.ms.map Mv.name := by rw [List.map_map]; rfl
  have h2 : (c.ms.map normM).all (moveR (normC c)) = c.ms.all (moveR c) := by
    rw [List.all_map]
    exact congrArg (fun p => c.ms.all p) (funext fun e => move_norm c e)
  unfold movesR
  rw [h0, List.length_map, h1, h2]
theorem checkC_norm (c : Ctr) : checkC (normC c) = checkC c := by
  have h1 : (normC c).name = c.name := rfl
  have h2 : stagesR (normC c) = stagesR c := rfl
  unfold checkC
  rw [h1, h2, fieldsR_norm, movesR_norm]
theorem listB_map {α : Type} (put : α → List UInt8) (n : α → α) (h : ∀ x, put (n x) = put x) (l : List α) : listB put (l.map n) = listB put l := by
  unfold listB
  rw [List.length_map, List.flatMap_map]
  exact congrArg (fun p => be 4 l.length ++ l.flatMap p) (funext h)
theorem ctrB_norm (c : Ctr) : ctrB (normC c) = ctrB c := by
  have h1 : listB fldB (c.fs.map normF) = listB fldB c.fs := listB_map fldB normF (fun f => by
    unfold fldB
    have h : (normF f).y = normV f.y := rfl
    rw [h, valB_norm]
    rfl) c.fs
  have h3 : ∀ es : List Eff, listB effB (es.map normE) = listB effB es := listB_map effB normE (fun e => by
    unfold effB
    have h : (normE e).e = normX 6 e.e := rfl
    rw [h, putE_norm]
    rfl)
  have h2 : listB mvB (c.ms.map normM) = listB mvB c.ms := listB_map mvB normM (fun m => by
    unfold mvB
    have h : (normM m).guard = normX 6 m.guard := rfl
    have h' : (normM m).effs = m.effs.map normE := rfl
    rw [h, h', putE_norm, h3]
    rfl) c.ms
  unfold ctrB
  have e1 : (normC c).fs = c.fs.map normF := rfl
  have e2 : (normC c).ms = c.ms.map normM := rfl
  rw [e1, e2, h1, h2]
  rfl
theorem okC_norm {c : Ctr} (h : okC c) : okC (normC c) := by
  refine ⟨fun f hf => ?_, h.s, fun m hm => ?_⟩
  · have hf : f ∈ c.fs.map normF := hf
    obtain ⟨x, hx, rfl⟩ := List.mem_map.1 hf
    exact ⟨okV_norm (h.y x hx).1, (h.y x hx).2⟩
  · have hm : m ∈ c.ms.map normM := hm
    obtain ⟨x, hx, rfl⟩ := List.mem_map.1 hm
    obtain ⟨h1, h2, h3, h4, h5⟩ := h.m x hx
    refine ⟨h1, h2, h3, okX_norm 6 x.guard h4, fun e he => ?_⟩
    have he : e ∈ x.effs.map normE := he
    obtain ⟨y, hy, rfl⟩ := List.mem_map.1 he
    exact okX_norm 6 y.e (h5 y hy)
theorem putC_norm (c : Ctr) : putC (normC c) = putC c := by
  unfold putC
  rw [checkC_norm, ctrB_norm]
/-- 6.3: there and back -/
theorem getC_back (c : Ctr) (rest : List UInt8) (hok : okC c) (h : checkC c = 0) : getC (putC c ++ rest) 0 = .ok (normC c, rest) := by
  have hp : putC c = ctrB c := if_pos h
  have hg := gCtr_back c rest hok (ctr_short hok h)
  unfold getC
  rw [hp, hg]
  unfold okC2
  dsimp only
  rw [checkC_norm, if_pos h]
end Go.Proofs.YthgdnpcfdgimlabGreat

/- Layer 6: what is read has numbers of theirs; how many there are; what is left. -/
namespace Go.Proofs.YthgdnpcfdgimlabGreat
open Go.RowKit
set_option linter.unusedVariables false
set_option linter.unusedSimpArgs false

/-! lists -/
end Go.Proofs.YthgdnpcfdgimlabGreat

/- Layer 6: lists that are read: what stands between the rounds. -/
namespace Go.Proofs.YthgdnpcfdgimlabGreat
open Go.RowKit
set_option linter.unusedVariables false
set_option linter.unusedSimpArgs false
set_option maxRecDepth 20000

/-- what was read ahead -/
def preN {α : Type} (l : List α) (X : Except Int (List α × List UInt8)) : Except Int (List α × List UInt8) := match X with
  | .error e => .error e
  | .ok (m, r) => .ok (l ++ m, r)
theorem preN_nil {α : Type} (X : Except Int (List α × List UInt8)) : preN [] X = X := by
  rcases X with e | ⟨m, r⟩ <;> rfl
theorem preN_ok {α : Type} {G : List UInt8 → Except Int (α × List UInt8)} {c : Nat} {r r1 : List UInt8} {x : α} (l : List α) (h : G r = .ok (x, r1)) : preN l (getN G (c + 1) r) = preN (l ++ [x]) (getN G c r1) := by
  rw [getN, h]
  dsimp only
  rcases getN G c r1 with e | ⟨m, r2⟩
  · rfl
  · simp [preN]
theorem preN_no {α : Type} {G : List UInt8 → Except Int (α × List UInt8)} {c : Nat} {r : List UInt8} {e : Int} (l : List α) (h : G r = .error e) : preN l (getN G (c + 1) r) = .error e := by
  rw [getN, h]
  rfl
theorem preN_end {α : Type} (G : List UInt8 → Except Int (α × List UInt8)) (r : List UInt8) (l : List α) : preN l (getN G 0 r) = .ok (l, r) := by
  rw [getN]
  simp [preN]

/-- what a step leaves that reads one: an error, or a part in new memory -/
def ElP {α β : Type} (bad : Value → Prop) (g : Nat) (vl : β → Value) (val : β → α) (ok : (Nat → Prop) → World → β → Prop) (X : Except Int (α × List UInt8)) (w : World) (e : Ending) (w' : World) : Prop := match X with
  | .error er => ∃ u, bad u ∧ e = .returned (.tuple #[u, .int .i64 er]) ∧ (∃ r' e', RdR w' g r' e') ∧ Only g w w'
  | .ok x => ∃ q, val q = x.1 ∧ e = .returned (.tuple #[vl q, .int .i64 0]) ∧ ok (fun b => w.heap.size ≤ b) w' q ∧ RdR w' g x.2 0 ∧ Only g w w'
/-- what a list's step leaves -/
def LsP {α β : Type} (g : Nat) (t : TypeId) (K : Nat) (cells : β → List Value) (val : β → α) (ok : (Nat → Prop) → World → β → Prop) (X : Except Int (List α × List UInt8)) (w : World) (e : Ending) (w' : World) : Prop := match X with
  | .error er => e = .returned (.tuple #[.slice none 0 0, .int .i64 er]) ∧ (∃ r' e', RdR w' g r' e') ∧ Only g w w'
  | .ok x => ∃ (qs : List β) (v : Value), e = .returned (.tuple #[v, .int .i64 0]) ∧ qs.map val = x.1 ∧ w'.ownsRow w.heap.size t K v qs.length (qs.flatMap cells) ∧ (∀ q ∈ qs, ok (fun b => w.heap.size ≤ b ∧ v.ownBlock ≠ some b) w' q) ∧ RdR w' g x.2 0 ∧ Only g w w'
/-- what holds ahead of each round -/
structure LsI {α β : Type} (G : List UInt8 → Except Int (α × List UInt8)) (w : World) (g : Nat) (t : TypeId) (K : Nat) (cells : β → List Value) (val : β → α) (ok : (Nat → Prop) → World → β → Prop) (c : Nat) (L : Except Int (List α × List UInt8)) (wr : World) (k : Nat) (qs : List β) (rk : List UInt8) (row : Value) : Prop where
  cnt : qs.length = k
  pre : preN (qs.map val) (getN G (c - k) rk) = L
  len : rk.length ≤ 1000000000000
  rd : RdR wr g rk 0
  own : wr.ownsRow w.heap.size t K row k (qs.flatMap cells)
  els : ∀ q ∈ qs, ok (fun b => w.heap.size ≤ b ∧ row.ownBlock ≠ some b) wr q
  on : Only g w wr
theorem own_only {w w' : World} {g base : Nat} {e : TypeId} {sz n : Nat} {v : Value} {xs : List Value} (h : w.ownsRow base e sz v n xs) (ht : Only g w w') (hg : g < base) : w'.ownsRow base e sz v n xs := by
  obtain ⟨h1, h2⟩ := h
  refine ⟨h1, ?_⟩
  rcases h2 with h2 | ⟨gb, cap, cur, e1, e2, e3, e4⟩
  · exact .inl h2
  · exact .inr ⟨gb, cap, cur, e1, e2, (ht.block gb (Array.getElem?_eq_some_iff.1 e3).1 (by intro e; injection e with e; omega)).trans e3, e4⟩
theorem LsI.next {α β : Type} {G : List UInt8 → Except Int (α × List UInt8)} {w : World} {g : Nat} {t : TypeId} {K : Nat} {cells : β → List Value} {val : β → α} {ok : (Nat → Prop) → World → β → Prop} {c : Nat} {L : Except Int (List α × List UInt8)} {wr w2 w3 w4 : World} {k : Nat} {qs : List β} {rk r1 : List UInt8} {row row' : Value} {q : β}
    (hmv : ∀ (S T : Nat → Prop) (w w' : World) (q : β), Kept S T w w' → w.heap.size ≤ w'.heap.size → ok S w q → ok T w' q) (ht : t ≠ 5) (hgw : g < w.heap.size)
    (h : LsI G w g t K cells val ok c L wr k qs rk row) (hk : k < c) (hx : G rk = .ok (val q, r1)) (hlen : r1.length ≤ rk.length)
    (hel : ok (fun b => wr.heap.size ≤ b) w2 q) (hrd : RdR w2 g r1 0) (hon : Only g wr w2) (hal : Below w2.heap.size w2 w3)
    (hown : w4.ownsRow w.heap.size t K row' (k + 1) (qs.flatMap cells ++ cells q)) (hgr : w3.grownBy w4 row.ownBlock) (hrow : row'.ownBlock = row.ownBlock ∨ row'.ownBlock = some w3.heap.size) :
    LsI G w g t K cells val ok c L w4 (k + 1) (qs ++ [q]) r1 row' := by
  have hz2 := hon.size
  have hz3 := hal.size
  have hz4 := hgr.size
  have hz0 := h.on.size
  have hrow0 := h.own.lt
  have hkeep : ∀ b, b < w2.heap.size → row.ownBlock ≠ some b → w4.heap[b]? = w2.heap[b]? := fun b h1 h3 => by
    rw [hgr.block b (by omega) (fun e => h3 e.symm)]
    exact hal.block b h1
  have hlow : ∀ b, b < w.heap.size → row.ownBlock ≠ some b := fun b hb e => by have := (hrow0 b e).1; omega
  have hrowT : ∀ (b : Nat) (cs : Array Value) (fr : Nat × Nat), w2.heap[b]? = some (Obj.cells cs 5 fr) → row.ownBlock ≠ some b := fun b cs fr hb e => by
    rcases h.own.2 with ⟨rfl, -⟩ | ⟨g', cap, cur, rfl, hbase, hg', -⟩
    · cases e
    · injection e with e
      have e : g' = b := e
      subst e
      have h5 := (hon.block g' (Array.getElem?_eq_some_iff.1 hg').1 (by intro e; injection e with e; omega)).trans hg'
      exact other_block hb h5 (fun e => ht e.symm) rfl
  refine ⟨by rw [List.length_append, h.cnt]; rfl, ?_, by have := h.len; omega, ?_, ?_, ?_, ⟨?_, ?_, ?_, by omega, fun m hm m1 => ?_⟩⟩
  · rw [List.map_append, List.map_cons, List.map_nil, ← h.pre, show c - k = c - (k + 1) + 1 by omega]
    exact (preN_ok _ hx).symm
  · exact hrd.keep (by omega) (hkeep g (by omega) (hlow g hgw)) fun b cs fr hb => hkeep b (Array.getElem?_eq_some_iff.1 hb).1 (hrowT b cs fr hb)
  · rw [List.flatMap_append, List.flatMap_cons, List.flatMap_nil, List.append_nil]
    exact hown
  · intro x hxq
    rcases List.mem_append.1 hxq with hxq | hxq
    · refine hmv _ _ _ _ _ (fun b hb hl => ?_) (by omega) (h.els x hxq)
      refine ⟨(hkeep b (by omega) hb.2).trans (hon.block b hl (by intro e; injection e with e; omega)), hb.1, ?_⟩
      rcases hrow with e | e
      · rw [e]; exact hb.2
      · rw [e]; intro e2; injection e2 with e2; omega
    · rw [List.mem_singleton.1 hxq]
      refine hmv _ _ _ _ _ (fun b hb hl => ?_) (by omega) hel
      have hne : row.ownBlock ≠ some b := fun e => by have := (hrow0 b e).2; omega
      refine ⟨hkeep b hl hne, by omega, ?_⟩
      rcases hrow with e | e
      · rw [e]; exact hne
      · rw [e]; intro e2; injection e2 with e2; omega
  · exact hgr.os.trans (hal.os.trans (hon.os.trans h.on.os))
  · exact hgr.tape.trans (hal.tape.trans (hon.tape.trans h.on.tape))
  · exact hgr.output.trans (hal.output.trans (hon.output.trans h.on.output))
  · exact (hkeep m (by omega) (hlow m hm)).trans ((hon.block m (by omega) m1).trans (h.on.block m hm m1))
theorem LsI.end {α β : Type} {G : List UInt8 → Except Int (α × List UInt8)} {w : World} {g : Nat} {t : TypeId} {K : Nat} {cells : β → List Value} {val : β → α} {ok : (Nat → Prop) → World → β → Prop} {c : Nat} {L : Except Int (List α × List UInt8)} {wr : World} {qs : List β} {rk : List UInt8} {row : Value} (h : LsI G w g t K cells val ok c L wr c qs rk row) : LsP g t K cells val ok L w (.returned (.tuple #[row, .int .i64 0])) wr := by
  have hp := h.pre
  rw [Nat.sub_self, preN_end] at hp
  rw [← hp]
  have ho := h.own
  rw [← h.cnt] at ho
  exact ⟨qs, row, rfl, rfl, ho, h.els, h.rd, h.on⟩
end Go.Proofs.YthgdnpcfdgimlabGreat
