/- ud: CFind COnce CEach CEff CStage CRight CTexts CTexts2 CField CEff2 CPutL CMv CPut CChk CPut2 CAw0 ELz KAw0 KGo KQuo KRRp KHas CPure CRef CGetD CNorm CGetK CGetP CGetL CGetF0 CGetF KRight KEnds KClone KNew CRef2 CRef3 (made by shake.py). -/
import Derived.Laws.EntriesVeiled
import Derived.BigQuiet
import Derived.Deep.RegionHeld3
import Derived.Deep.RegionWith
import Derived.Test.YtachhcabgggimaaGreatuc
namespace Go.Proofs.YtachhcabgggimaaGreat
open Go.RowKit
set_option linter.unusedVariables false
set_option linter.unusedSimpArgs false
set_option maxRecDepth 20000

theorem clo_Field (p : Nat) (nm : ByteArray) (x : Fld) (A : Option Addr) (c : Nat) (w : World) (h : w.cell? ⟨p, 0, none⟩ = some (.string nm)) :
    Calls Tryz.prog 171 #[agFl x A c, .pointer (some ⟨p, 0, none⟩)] w (VMk (.bool (x.f.name.toList == nm.toList)) w) := by
  have hp : p < w.heap.size := World.block_lt_of_cell? w _ h
  generalize hb : (x.f.name.toList == nm.toList) = b
  have hne : ¬ w.heap.size = p := by omega
  go_enter Tryz.func171, Tryz.ntmps171
  go_wp2
  go_ret
  exact ⟨rfl, (Below.refl _ _).alloc (Nat.le_refl _) _⟩
theorem first_Field (nm : ByteArray) : ∀ (l : List Fld) (i : Nat), firstB (fun x => x.f.name.toList == nm.toList) l i = placeN nm (l.map fun x => x.f.name) i
  | [], _ => rfl
  | x :: l, i => by
    rw [firstB, List.map_cons, placeN, first_Field nm l (i + 1)]
set_option maxHeartbeats 1000000 in
theorem cField_any (ct : Ctr) (FA : Option Addr) (fc : Nat) (SA : Option Addr) (sc : Nat) (MA : Option Addr) (mc : Nat) (nm : ByteArray) (w : World) (h : CtK w ct FA fc SA sc MA mc) :
    Calls Tryz.prog 119 #[agC ct.name FA ct.fs.length fc SA ct.ss.length sc MA ct.ms.length mc, .string nm] w (VMk (.int .i64 (placeN nm (ct.fs.map fun x => x.f.name) 0)) w) := by
  have hb2 := ((Below.refl w.heap.size w).alloc (Nat.le_refl _) (.cells #[.string ct.name, .slice FA ct.fs.length fc, .slice SA ct.ss.length sc, .slice MA ct.ms.length mc] 33)).alloc (by simp) (.cells #[.string nm] 9)
  have hcell : ((w.alloc (.cells #[.string ct.name, .slice FA ct.fs.length fc, .slice SA ct.ss.length sc, .slice MA ct.ms.length mc] 33)).alloc (.cells #[.string nm] 9)).cell? ⟨w.heap.size + 1, 0, none⟩ = some (.string nm) := by
    have h := heap_alloc_new (w.alloc (.cells #[.string ct.name, .slice FA ct.fs.length fc, .slice SA ct.ss.length sc, .slice MA ct.ms.length mc] 33)) (.cells #[.string nm] 9)
    rw [World.size_alloc] at h
    exact (cell_of_row _ _ 0 _ _ (0, 0) h).trans rfl
  have hi := idx_Field (fun x => x.f.name.toList == nm.toList) (w.heap.size + 1) FA fc ct.fs _ ((FldK.below h.f hb2)) (fun x _ A c W hW _ => clo_Field (w.heap.size + 1) nm x A c W (keepc hW (World.block_lt_of_cell? _ _ hcell) hcell))
  rw [first_Field] at hi
  have HI := Lib.hid hi
  have HB := Lib.hid hb2
  clear hi hb2 hcell h
  go_enter Tryz.func119, Tryz.ntmps119
  go_wp2_with (go_at_call 170; refine HI.out.mono ?_; rintro e w1 ⟨rfl, hb1⟩)
  go_ret
  exact ⟨rfl, HB.out.trans (hb1.mono HB.out.size)⟩
set_option maxHeartbeats 1000000 in
theorem rField_any (ct : Ctr) (FA : Option Addr) (fc : Nat) (SA : Option Addr) (sc : Nat) (MA : Option Addr) (mc : Nat) (nm : ByteArray) (w : World) (h : CtK w ct FA fc SA sc MA mc) :
    Calls Tryz.prog 81 #[agC ct.name FA ct.fs.length fc SA ct.ss.length sc MA ct.ms.length mc, .string nm] w (VMk (.int .i64 (placeN nm (ct.fs.map fun x => x.f.name) 0)) w) := by
  obtain ⟨h1, h2, h3, h4⟩ := h.f
  unfold maxLen at h2
  have hlen : ct.fs.length ≤ 9223372036854775807 := by omega
  have H4 := Lib.hid h4
  have hN := heap_alloc_new w (.cells #[.string ct.name, .slice FA ct.fs.length fc, .slice SA ct.ss.length sc, .slice MA ct.ms.length mc] 33)
  have hcell : (w.alloc (.cells #[.string ct.name, .slice FA ct.fs.length fc, .slice SA ct.ss.length sc, .slice MA ct.ms.length mc] 33)).cell? ⟨w.heap.size, 1, none⟩ = some (.slice FA ct.fs.length fc) := (cell_of_row _ _ 1 _ _ (0, 0) hN).trans rfl
  have HB := Lib.hid ((Below.refl w.heap.size w).alloc (Nat.le_refl _) (.cells #[.string ct.name, .slice FA ct.fs.length fc, .slice SA ct.ss.length sc, .slice MA ct.ms.length mc] 33))
  have HCL := Lib.hid hcell
  clear h4 h1 h2 h3 h hN hcell
  rw [← first_Field]
  generalize ct.fs = l at *
  go_enter Tryz.func81, Tryz.ntmps81
  go_upto_region 1 with fail
  generalize w.alloc _ = w0 at *
  have hc0 := HCL.out
  go_wp2
  go_loopw [5] (fun i wr => ∃ k : Nat, k ≤ l.length ∧ i = .int .i64 k ∧ firstB (fun x => x.f.name.toList == nm.toList) (l.drop k) k = firstB (fun x => x.f.name.toList == nm.toList) l 0 ∧ w0 = wr) (fun i _ => l.length - (intOf i).toNat)
  case atStart => exact ⟨0, Nat.zero_le _, rfl, rfl, rfl⟩
  case round =>
    obtain ⟨k, hk, rfl, hfi, rfl⟩ := hrel
    by_cases hlt : k < l.length
    · obtain ⟨ad, rfl, hbl, hpart⟩ := H4.out k hlt
      have hpart2 := hpart.below HB.out (by rw [block_add]; exact hbl)
      rw [List.drop_eq_getElem_cons hlt, firstB] at hfi
      generalize l[k] = x at *
      obtain ⟨A, c, hq, hdeep⟩ := hpart2
      have q0 : w0.cell? (ad.add (k * 8)) = some (.string x.f.name) := hq.1
      have hltI : (k : Int) < (l.length : Int) := by omega
      rcases hd : (x.f.name.toList == nm.toList) with _ | _
      all_goals
        rw [hd] at hfi
        have HF := Lib.hid hfi
        clear hfi hpart hq hdeep
        go_wp2
      · go_roundw
        case rel => exact ⟨k + 1, by omega, by go_num, by have h := HF.out; rwa [if_neg (by decide)] at h, by trivial⟩
        case measure => simp [intOf]; omega
      · go_ret
        exact ⟨ret_int (by have h := HF.out; simpa using h), HB.out⟩
    · obtain rfl : k = l.length := by omega
      rw [List.drop_length, firstB] at hfi
      have HF := Lib.hid hfi
      clear hfi
      go_wp2
      go_ret
      exact ⟨ret_int HF.out, HB.out⟩
theorem clo_Stage (p : Nat) (nm : ByteArray) (x : Stg) (A : Option Addr) (c : Nat) (w : World) (h : w.cell? ⟨p, 0, none⟩ = some (.string nm)) :
    Calls Tryz.prog 80 #[agSt x A c, .pointer (some ⟨p, 0, none⟩)] w (VMk (.bool (x.name.toList == nm.toList)) w) := by
  have hp : p < w.heap.size := World.block_lt_of_cell? w _ h
  generalize hb : (x.name.toList == nm.toList) = b
  have hne : ¬ w.heap.size = p := by omega
  go_enter Tryz.func80, Tryz.ntmps80
  go_wp2
  go_ret
  exact ⟨rfl, (Below.refl _ _).alloc (Nat.le_refl _) _⟩
theorem first_Stage (nm : ByteArray) : ∀ (l : List Stg) (i : Nat), firstB (fun x => x.name.toList == nm.toList) l i = placeN nm (l.map fun x => x.name) i
  | [], _ => rfl
  | x :: l, i => by
    rw [firstB, List.map_cons, placeN, first_Stage nm l (i + 1)]
set_option maxHeartbeats 1000000 in
theorem cStage_any (ct : Ctr) (FA : Option Addr) (fc : Nat) (SA : Option Addr) (sc : Nat) (MA : Option Addr) (mc : Nat) (nm : ByteArray) (w : World) (h : CtK w ct FA fc SA sc MA mc) :
    Calls Tryz.prog 39 #[agC ct.name FA ct.fs.length fc SA ct.ss.length sc MA ct.ms.length mc, .string nm] w (VMk (.int .i64 (placeN nm (ct.ss.map fun x => x.name) 0)) w) := by
  have hb2 := ((Below.refl w.heap.size w).alloc (Nat.le_refl _) (.cells #[.string ct.name, .slice FA ct.fs.length fc, .slice SA ct.ss.length sc, .slice MA ct.ms.length mc] 33)).alloc (by simp) (.cells #[.string nm] 9)
  have hcell : ((w.alloc (.cells #[.string ct.name, .slice FA ct.fs.length fc, .slice SA ct.ss.length sc, .slice MA ct.ms.length mc] 33)).alloc (.cells #[.string nm] 9)).cell? ⟨w.heap.size + 1, 0, none⟩ = some (.string nm) := by
    have h := heap_alloc_new (w.alloc (.cells #[.string ct.name, .slice FA ct.fs.length fc, .slice SA ct.ss.length sc, .slice MA ct.ms.length mc] 33)) (.cells #[.string nm] 9)
    rw [World.size_alloc] at h
    exact (cell_of_row _ _ 0 _ _ (0, 0) h).trans rfl
  have hi := idx_Stage (fun x => x.name.toList == nm.toList) (w.heap.size + 1) SA sc ct.ss _ ((StgK.below h.s hb2)) (fun x _ A c W hW _ => clo_Stage (w.heap.size + 1) nm x A c W (keepc hW (World.block_lt_of_cell? _ _ hcell) hcell))
  rw [first_Stage] at hi
  have HI := Lib.hid hi
  have HB := Lib.hid hb2
  clear hi hb2 hcell h
  go_enter Tryz.func39, Tryz.ntmps39
  go_wp2_with (go_at_call 79; refine HI.out.mono ?_; rintro e w1 ⟨rfl, hb1⟩)
  go_ret
  exact ⟨rfl, HB.out.trans (hb1.mono HB.out.size)⟩
set_option maxHeartbeats 1000000 in
theorem rStage_any (ct : Ctr) (FA : Option Addr) (fc : Nat) (SA : Option Addr) (sc : Nat) (MA : Option Addr) (mc : Nat) (nm : ByteArray) (w : World) (h : CtK w ct FA fc SA sc MA mc) :
    Calls Tryz.prog 83 #[agC ct.name FA ct.fs.length fc SA ct.ss.length sc MA ct.ms.length mc, .string nm] w (VMk (.int .i64 (placeN nm (ct.ss.map fun x => x.name) 0)) w) := by
  obtain ⟨h1, h2, h3, h4⟩ := h.s
  unfold maxLen at h2
  have hlen : ct.ss.length ≤ 9223372036854775807 := by omega
  have H4 := Lib.hid h4
  have hN := heap_alloc_new w (.cells #[.string ct.name, .slice FA ct.fs.length fc, .slice SA ct.ss.length sc, .slice MA ct.ms.length mc] 33)
  have hcell : (w.alloc (.cells #[.string ct.name, .slice FA ct.fs.length fc, .slice SA ct.ss.length sc, .slice MA ct.ms.length mc] 33)).cell? ⟨w.heap.size, 2, none⟩ = some (.slice SA ct.ss.length sc) := (cell_of_row _ _ 2 _ _ (0, 0) hN).trans rfl
  have HB := Lib.hid ((Below.refl w.heap.size w).alloc (Nat.le_refl _) (.cells #[.string ct.name, .slice FA ct.fs.length fc, .slice SA ct.ss.length sc, .slice MA ct.ms.length mc] 33))
  have HCL := Lib.hid hcell
  clear h4 h1 h2 h3 h hN hcell
  rw [← first_Stage]
  generalize ct.ss = l at *
  go_enter Tryz.func83, Tryz.ntmps83
  go_upto_region 1 with fail
  generalize w.alloc _ = w0 at *
  have hc0 := HCL.out
  go_wp2
  go_loopw [5] (fun i wr => ∃ k : Nat, k ≤ l.length ∧ i = .int .i64 k ∧ firstB (fun x => x.name.toList == nm.toList) (l.drop k) k = firstB (fun x => x.name.toList == nm.toList) l 0 ∧ w0 = wr) (fun i _ => l.length - (intOf i).toNat)
  case atStart => exact ⟨0, Nat.zero_le _, rfl, rfl, rfl⟩
  case round =>
    obtain ⟨k, hk, rfl, hfi, rfl⟩ := hrel
    by_cases hlt : k < l.length
    · obtain ⟨ad, rfl, hbl, hpart⟩ := H4.out k hlt
      have hpart2 := hpart.below HB.out (by rw [block_add]; exact hbl)
      rw [List.drop_eq_getElem_cons hlt, firstB] at hfi
      generalize l[k] = x at *
      obtain ⟨A, c, h0, h1, h2, hdeep⟩ := hpart2
      have q0 : w0.cell? (ad.add (k * 3)) = some (.string x.name) := h0
      have hltI : (k : Int) < (l.length : Int) := by omega
      rcases hd : (x.name.toList == nm.toList) with _ | _
      all_goals
        rw [hd] at hfi
        have HF := Lib.hid hfi
        clear hfi hpart h0 h1 h2 hdeep
        go_wp2
      · go_roundw
        case rel => exact ⟨k + 1, by omega, by go_num, by have h := HF.out; rwa [if_neg (by decide)] at h, by trivial⟩
        case measure => simp [intOf]; omega
      · go_ret
        exact ⟨ret_int (by have h := HF.out; simpa using h), HB.out⟩
    · obtain rfl : k = l.length := by omega
      rw [List.drop_length, firstB] at hfi
      have HF := Lib.hid hfi
      clear hfi
      go_wp2
      go_ret
      exact ⟨ret_int HF.out, HB.out⟩
theorem clo_Move (p : Nat) (nm : ByteArray) (x : Mv) (A : Option Addr) (c : Nat) (EA : Option Addr) (ec : Nat) (w : World) (h : w.cell? ⟨p, 0, none⟩ = some (.string nm)) :
    Calls Tryz.prog 179 #[agMv x A c EA ec, .pointer (some ⟨p, 0, none⟩)] w (VMk (.bool (x.name.toList == nm.toList)) w) := by
  have hp : p < w.heap.size := World.block_lt_of_cell? w _ h
  generalize hb : (x.name.toList == nm.toList) = b
  have hne : ¬ w.heap.size = p := by omega
  go_enter Tryz.func179, Tryz.ntmps179
  go_wp2
  go_ret
  exact ⟨rfl, (Below.refl _ _).alloc (Nat.le_refl _) _⟩
theorem first_Move (nm : ByteArray) : ∀ (l : List Mv) (i : Nat), firstB (fun x => x.name.toList == nm.toList) l i = placeN nm (l.map fun x => x.name) i
  | [], _ => rfl
  | x :: l, i => by
    rw [firstB, List.map_cons, placeN, first_Move nm l (i + 1)]
set_option maxHeartbeats 1000000 in
theorem cMove_any (ct : Ctr) (FA : Option Addr) (fc : Nat) (SA : Option Addr) (sc : Nat) (MA : Option Addr) (mc : Nat) (nm : ByteArray) (w : World) (h : CtK w ct FA fc SA sc MA mc) :
    Calls Tryz.prog 128 #[agC ct.name FA ct.fs.length fc SA ct.ss.length sc MA ct.ms.length mc, .string nm] w (VMk (.int .i64 (placeN nm (ct.ms.map fun x => x.name) 0)) w) := by
  have hb2 := ((Below.refl w.heap.size w).alloc (Nat.le_refl _) (.cells #[.string ct.name, .slice FA ct.fs.length fc, .slice SA ct.ss.length sc, .slice MA ct.ms.length mc] 33)).alloc (by simp) (.cells #[.string nm] 9)
  have hcell : ((w.alloc (.cells #[.string ct.name, .slice FA ct.fs.length fc, .slice SA ct.ss.length sc, .slice MA ct.ms.length mc] 33)).alloc (.cells #[.string nm] 9)).cell? ⟨w.heap.size + 1, 0, none⟩ = some (.string nm) := by
    have h := heap_alloc_new (w.alloc (.cells #[.string ct.name, .slice FA ct.fs.length fc, .slice SA ct.ss.length sc, .slice MA ct.ms.length mc] 33)) (.cells #[.string nm] 9)
    rw [World.size_alloc] at h
    exact (cell_of_row _ _ 0 _ _ (0, 0) h).trans rfl
  have hi := idx_Move (fun x => x.name.toList == nm.toList) (w.heap.size + 1) MA mc ct.ms _ ((MvK.below h.m hb2)) (fun x _ A c EA ec W hW _ => clo_Move (w.heap.size + 1) nm x A c EA ec W (keepc hW (World.block_lt_of_cell? _ _ hcell) hcell))
  rw [first_Move] at hi
  have HI := Lib.hid hi
  have HB := Lib.hid hb2
  clear hi hb2 hcell h
  go_enter Tryz.func128, Tryz.ntmps128
  go_wp2_with (go_at_call 178; refine HI.out.mono ?_; rintro e w1 ⟨rfl, hb1⟩)
  go_ret
  exact ⟨rfl, HB.out.trans (hb1.mono HB.out.size)⟩
set_option maxHeartbeats 1000000 in
theorem rMove_any (ct : Ctr) (FA : Option Addr) (fc : Nat) (SA : Option Addr) (sc : Nat) (MA : Option Addr) (mc : Nat) (nm : ByteArray) (w : World) (h : CtK w ct FA fc SA sc MA mc) :
    Calls Tryz.prog 43 #[agC ct.name FA ct.fs.length fc SA ct.ss.length sc MA ct.ms.length mc, .string nm] w (VMk (.int .i64 (placeN nm (ct.ms.map fun x => x.name) 0)) w) := by
  obtain ⟨h1, h2, h3, h4⟩ := h.m
  unfold maxLen at h2
  have hlen : ct.ms.length ≤ 9223372036854775807 := by omega
  have H4 := Lib.hid h4
  have hN := heap_alloc_new w (.cells #[.string ct.name, .slice FA ct.fs.length fc, .slice SA ct.ss.length sc, .slice MA ct.ms.length mc] 33)
  have hcell : (w.alloc (.cells #[.string ct.name, .slice FA ct.fs.length fc, .slice SA ct.ss.length sc, .slice MA ct.ms.length mc] 33)).cell? ⟨w.heap.size, 3, none⟩ = some (.slice MA ct.ms.length mc) := (cell_of_row _ _ 3 _ _ (0, 0) hN).trans rfl
  have HB := Lib.hid ((Below.refl w.heap.size w).alloc (Nat.le_refl _) (.cells #[.string ct.name, .slice FA ct.fs.length fc, .slice SA ct.ss.length sc, .slice MA ct.ms.length mc] 33))
  have HCL := Lib.hid hcell
  clear h4 h1 h2 h3 h hN hcell
  rw [← first_Move]
  generalize ct.ms = l at *
  go_enter Tryz.func43, Tryz.ntmps43
  go_upto_region 1 with fail
  generalize w.alloc _ = w0 at *
  have hc0 := HCL.out
  go_wp2
  go_loopw [5] (fun i wr => ∃ k : Nat, k ≤ l.length ∧ i = .int .i64 k ∧ firstB (fun x => x.name.toList == nm.toList) (l.drop k) k = firstB (fun x => x.name.toList == nm.toList) l 0 ∧ w0 = wr) (fun i _ => l.length - (intOf i).toNat)
  case atStart => exact ⟨0, Nat.zero_le _, rfl, rfl, rfl⟩
  case round =>
    obtain ⟨k, hk, rfl, hfi, rfl⟩ := hrel
    by_cases hlt : k < l.length
    · obtain ⟨ad, rfl, hbl, hpart⟩ := H4.out k hlt
      have hpart2 := hpart.below HB.out (by rw [block_add]; exact hbl)
      rw [List.drop_eq_getElem_cons hlt, firstB] at hfi
      generalize l[k] = x at *
      obtain ⟨A, c, EA, ec, h0, h1, h2, hk, he, h11, h12, hek⟩ := hpart2
      have q0 : w0.cell? (ad.add (k * 13)) = some (.string x.name) := h0
      have hltI : (k : Int) < (l.length : Int) := by omega
      rcases hd : (x.name.toList == nm.toList) with _ | _
      all_goals
        rw [hd] at hfi
        have HF := Lib.hid hfi
        clear hfi hpart h0 h1 h2 hk he h11 h12 hek
        go_wp2
      · go_roundw
        case rel => exact ⟨k + 1, by omega, by go_num, by have h := HF.out; rwa [if_neg (by decide)] at h, by trivial⟩
        case measure => simp [intOf]; omega
      · go_ret
        exact ⟨ret_int (by have h := HF.out; simpa using h), HB.out⟩
    · obtain rfl : k = l.length := by omega
      rw [List.drop_length, firstB] at hfi
      have HF := Lib.hid hfi
      clear hfi
      go_wp2
      go_ret
      exact ⟨ret_int HF.out, HB.out⟩

def onceF {α : Type} (g : α → Int) : List α → Nat → Bool
  | [], _ => true
  | x :: l, i => (g x == (i : Int)) && onceF g l (i + 1)
set_option maxHeartbeats 1000000 in
theorem once_Field (g : Fld → Int) (p : Nat) (A : Option Addr) (cc : Nat) (l : List Fld) (w : World) (hf : FldK w A cc l)
    (hcall : ∀ x ∈ l, ∀ (A : Option Addr) (c : Nat) W, Below w.heap.size w W → Calls Tryz.prog 118 #[agFl x A c, .pointer (some ⟨p, 0, none⟩)] W (VMk (.int .i64 (g x)) W)) :
    Calls Tryz.prog 117 #[.slice A l.length cc, .func (Fn.func 118) #[] #[.pointer (some ⟨p, 0, none⟩)]] w (VMk (.bool (onceF g l 0)) w) := by
  obtain ⟨h1, h2, h3, h4⟩ := hf
  unfold maxLen at h2
  have hlen : l.length ≤ 9223372036854775807 := by omega
  have HP := Lib.hid hcall
  have H4 := Lib.hid h4
  clear hcall h4 h1 h2 h3
  have hsf := fun (w : World) (a : Addr) (m : Mode) (b : Nat) => run_store Tryz.prog w a (.float .f64 b) m rfl
  go_enter Tryz.func117, Tryz.ntmps117
  go_wp2
  go_loopw [9] (fun i wr => ∃ k : Nat, k ≤ l.length ∧ i = .int .i64 k ∧ onceF g (l.drop k) k = onceF g l 0 ∧ Below w.heap.size w wr) (fun i _ => l.length - (intOf i).toNat)
  case atStart => exact ⟨0, Nat.zero_le _, rfl, rfl, Below.refl _ _⟩
  case round =>
    obtain ⟨k, hk, rfl, hfi, hb⟩ := hrel
    by_cases hlt : k < l.length
    · obtain ⟨ad, rfl, hbl, hpart⟩ := H4.out k hlt
      have hpart2 := hpart.below hb (by rw [block_add]; exact hbl)
      have hmem := List.getElem_mem hlt
      rw [List.drop_eq_getElem_cons hlt, onceF] at hfi
      generalize l[k] = x at *
      obtain ⟨A, c, hq, hdeep⟩ := hpart2
      have q0 : wr.cell? (ad.add (k * 8)) = some (.string x.f.name) := hq.1
      have q1 : wr.cell? ⟨(ad.add (k * 8)).block, (ad.add (k * 8)).off + 1, none⟩ = some (.int .i64 x.f.kind) := hq.2.1
      have q2 : wr.cell? ⟨(ad.add (k * 8)).block, (ad.add (k * 8)).off + 2, none⟩ = some (.slice A x.en.length c) := hq.2.2.1
      have q3 : wr.cell? ⟨(ad.add (k * 8)).block, (ad.add (k * 8)).off + 3, none⟩ = some (.int .i64 x.y.k) := hq.2.2.2.1
      have q4 : wr.cell? ⟨(ad.add (k * 8)).block, (ad.add (k * 8)).off + 4, none⟩ = some (.int .i64 x.y.i) := hq.2.2.2.2.1
      have q5 : wr.cell? ⟨(ad.add (k * 8)).block, (ad.add (k * 8)).off + 5, none⟩ = some (.bool x.y.b) := hq.2.2.2.2.2.1
      have q6 : wr.cell? ⟨(ad.add (k * 8)).block, (ad.add (k * 8)).off + 6, none⟩ = some (.string x.y.s) := hq.2.2.2.2.2.2.1
      have q7 : wr.cell? ⟨(ad.add (k * 8)).block, (ad.add (k * 8)).off + 7, none⟩ = some (.float .f64 x.y.n) := hq.2.2.2.2.2.2.2
      have hc := fun o => HP.out x hmem A c (wr.alloc o) (hb.trans ((alloc1 wr o).mono hb.size))
      clear hpart hmem
      have HC := Lib.hid hc
      rcases hd : (g x == (k : Int)) with _ | _
      all_goals
        rw [hd] at hfi
        have hne : (g x != (k : Int)) = !(g x == (k : Int)) := rfl
        rw [hd] at hne
        have HF := Lib.hid hfi
        clear hfi hd hc hq hdeep
        try simp only [Bool.not_true, Bool.not_false] at hne
        go_wp2_with (first | fail | (go_at_call 118; refine (HC.out _).mono ?_; rintro e w1 ⟨rfl, hb1⟩))
      · go_ret
        exact ⟨ret_bool (by have h := HF.out; simpa using h), (hb.trans ((alloc1 wr _).mono hb.size)).trans (hb1.mono (Nat.le_trans hb.size (alloc1 wr _).size))⟩
      · go_roundw
        case rel => exact ⟨k + 1, by omega, by go_num, by have h := HF.out; simpa using h, (hb.trans ((alloc1 wr _).mono hb.size)).trans (hb1.mono (Nat.le_trans hb.size (alloc1 wr _).size))⟩
        case measure => simp [intOf]; omega
    · obtain rfl : k = l.length := by omega
      rw [List.drop_length, onceF] at hfi
      have HF := Lib.hid hfi
      clear hfi
      go_wp2
      go_ret
      exact ⟨ret_bool HF.out, hb⟩
theorem clo1_Field (p : Nat) (ct : Ctr) (FA : Option Addr) (fc : Nat) (SA : Option Addr) (sc : Nat) (MA : Option Addr) (mc : Nat) (x : Fld) (A : Option Addr) (c : Nat) (w : World)
    (h0 : w.cell? ⟨p, 0, none⟩ = some (.string ct.name)) (h1 : w.cell? ⟨p, 1, none⟩ = some (.slice FA ct.fs.length fc)) (h2 : w.cell? ⟨p, 2, none⟩ = some (.slice SA ct.ss.length sc)) (h3 : w.cell? ⟨p, 3, none⟩ = some (.slice MA ct.ms.length mc)) (h : CtK w ct FA fc SA sc MA mc) :
    Calls Tryz.prog 118 #[agFl x A c, .pointer (some ⟨p, 0, none⟩)] w (VMk (.int .i64 (placeN x.f.name (ct.fs.map fun x => x.f.name) 0)) w) := by
  have hp : p < w.heap.size := World.block_lt_of_cell? w _ h0
  have hne : ¬ w.heap.size = p := by omega
  have HC := Lib.hid (fun o => cField_any ct FA fc SA sc MA mc x.f.name (w.alloc o) (h.below (alloc1 w o)))
  clear h
  generalize placeN x.f.name (ct.fs.map fun x => x.f.name) 0 = r at *
  go_enter Tryz.func118, Tryz.ntmps118
  go_wp2_with (go_at_call 119; refine (HC.out _).mono ?_; rintro e w1 ⟨rfl, hb1⟩)
  go_ret
  exact ⟨rfl, bel2 (alloc1 w _) hb1⟩
set_option maxHeartbeats 1000000 in
theorem once_Stage (g : Stg → Int) (p : Nat) (A : Option Addr) (cc : Nat) (l : List Stg) (w : World) (hf : StgK w A cc l)
    (hcall : ∀ x ∈ l, ∀ (A : Option Addr) (c : Nat) W, Below w.heap.size w W → Calls Tryz.prog 123 #[agSt x A c, .pointer (some ⟨p, 0, none⟩)] W (VMk (.int .i64 (g x)) W)) :
    Calls Tryz.prog 122 #[.slice A l.length cc, .func (Fn.func 123) #[] #[.pointer (some ⟨p, 0, none⟩)]] w (VMk (.bool (onceF g l 0)) w) := by
  obtain ⟨h1, h2, h3, h4⟩ := hf
  unfold maxLen at h2
  have hlen : l.length ≤ 9223372036854775807 := by omega
  have HP := Lib.hid hcall
  have H4 := Lib.hid h4
  clear hcall h4 h1 h2 h3
  have hsf := fun (w : World) (a : Addr) (m : Mode) (b : Nat) => run_store Tryz.prog w a (.float .f64 b) m rfl
  go_enter Tryz.func122, Tryz.ntmps122
  go_wp2
  go_loopw [9] (fun i wr => ∃ k : Nat, k ≤ l.length ∧ i = .int .i64 k ∧ onceF g (l.drop k) k = onceF g l 0 ∧ Below w.heap.size w wr) (fun i _ => l.length - (intOf i).toNat)
  case atStart => exact ⟨0, Nat.zero_le _, rfl, rfl, Below.refl _ _⟩
  case round =>
    obtain ⟨k, hk, rfl, hfi, hb⟩ := hrel
    by_cases hlt : k < l.length
    · obtain ⟨ad, rfl, hbl, hpart⟩ := H4.out k hlt
      have hpart2 := hpart.below hb (by rw [block_add]; exact hbl)
      have hmem := List.getElem_mem hlt
      rw [List.drop_eq_getElem_cons hlt, onceF] at hfi
      generalize l[k] = x at *
      obtain ⟨A, c, h0, h1, h2, hdeep⟩ := hpart2
      have q0 : wr.cell? (ad.add (k * 3)) = some (.string x.name) := h0
      have q1 : wr.cell? ⟨(ad.add (k * 3)).block, (ad.add (k * 3)).off + 1, none⟩ = some (.int .i64 x.need) := h1
      have q2 : wr.cell? ⟨(ad.add (k * 3)).block, (ad.add (k * 3)).off + 2, none⟩ = some (.slice A x.orgs.length c) := h2
      have hc := fun o => HP.out x hmem A c (wr.alloc o) (hb.trans ((alloc1 wr o).mono hb.size))
      clear hpart hmem
      have HC := Lib.hid hc
      rcases hd : (g x == (k : Int)) with _ | _
      all_goals
        rw [hd] at hfi
        have hne : (g x != (k : Int)) = !(g x == (k : Int)) := rfl
        rw [hd] at hne
        have HF := Lib.hid hfi
        clear hfi hd hc hdeep
        try simp only [Bool.not_true, Bool.not_false] at hne
        go_wp2_with (first | fail | (go_at_call 123; refine (HC.out _).mono ?_; rintro e w1 ⟨rfl, hb1⟩))
      · go_ret
        exact ⟨ret_bool (by have h := HF.out; simpa using h), (hb.trans ((alloc1 wr _).mono hb.size)).trans (hb1.mono (Nat.le_trans hb.size (alloc1 wr _).size))⟩
      · go_roundw
        case rel => exact ⟨k + 1, by omega, by go_num, by have h := HF.out; simpa using h, (hb.trans ((alloc1 wr _).mono hb.size)).trans (hb1.mono (Nat.le_trans hb.size (alloc1 wr _).size))⟩
        case measure => simp [intOf]; omega
    · obtain rfl : k = l.length := by omega
      rw [List.drop_length, onceF] at hfi
      have HF := Lib.hid hfi
      clear hfi
      go_wp2
      go_ret
      exact ⟨ret_bool HF.out, hb⟩
theorem clo1_Stage (p : Nat) (ct : Ctr) (FA : Option Addr) (fc : Nat) (SA : Option Addr) (sc : Nat) (MA : Option Addr) (mc : Nat) (x : Stg) (A : Option Addr) (c : Nat) (w : World)
    (h0 : w.cell? ⟨p, 0, none⟩ = some (.string ct.name)) (h1 : w.cell? ⟨p, 1, none⟩ = some (.slice FA ct.fs.length fc)) (h2 : w.cell? ⟨p, 2, none⟩ = some (.slice SA ct.ss.length sc)) (h3 : w.cell? ⟨p, 3, none⟩ = some (.slice MA ct.ms.length mc)) (h : CtK w ct FA fc SA sc MA mc) :
    Calls Tryz.prog 123 #[agSt x A c, .pointer (some ⟨p, 0, none⟩)] w (VMk (.int .i64 (placeN x.name (ct.ss.map fun x => x.name) 0)) w) := by
  have hp : p < w.heap.size := World.block_lt_of_cell? w _ h0
  have hne : ¬ w.heap.size = p := by omega
  have HC := Lib.hid (fun o => cStage_any ct FA fc SA sc MA mc x.name (w.alloc o) (h.below (alloc1 w o)))
  clear h
  generalize placeN x.name (ct.ss.map fun x => x.name) 0 = r at *
  go_enter Tryz.func123, Tryz.ntmps123
  go_wp2_with (go_at_call 39; refine (HC.out _).mono ?_; rintro e w1 ⟨rfl, hb1⟩)
  go_ret
  exact ⟨rfl, bel2 (alloc1 w _) hb1⟩
set_option maxHeartbeats 1000000 in
theorem once_Move (g : Mv → Int) (p : Nat) (A : Option Addr) (cc : Nat) (l : List Mv) (w : World) (hf : MvK w A cc l)
    (hcall : ∀ x ∈ l, ∀ (A : Option Addr) (c : Nat) (EA : Option Addr) (ec : Nat) W, Below w.heap.size w W → Calls Tryz.prog 127 #[agMv x A c EA ec, .pointer (some ⟨p, 0, none⟩)] W (VMk (.int .i64 (g x)) W)) :
    Calls Tryz.prog 126 #[.slice A l.length cc, .func (Fn.func 127) #[] #[.pointer (some ⟨p, 0, none⟩)]] w (VMk (.bool (onceF g l 0)) w) := by
  obtain ⟨h1, h2, h3, h4⟩ := hf
  unfold maxLen at h2
  have hlen : l.length ≤ 9223372036854775807 := by omega
  have HP := Lib.hid hcall
  have H4 := Lib.hid h4
  clear hcall h4 h1 h2 h3
  have hsf := fun (w : World) (a : Addr) (m : Mode) (b : Nat) => run_store Tryz.prog w a (.float .f64 b) m rfl
  go_enter Tryz.func126, Tryz.ntmps126
  go_wp2
  go_loopw [9] (fun i wr => ∃ k : Nat, k ≤ l.length ∧ i = .int .i64 k ∧ onceF g (l.drop k) k = onceF g l 0 ∧ Below w.heap.size w wr) (fun i _ => l.length - (intOf i).toNat)
  case atStart => exact ⟨0, Nat.zero_le _, rfl, rfl, Below.refl _ _⟩
  case round =>
    obtain ⟨k, hk, rfl, hfi, hb⟩ := hrel
    by_cases hlt : k < l.length
    · obtain ⟨ad, rfl, hbl, hpart⟩ := H4.out k hlt
      have hpart2 := hpart.below hb (by rw [block_add]; exact hbl)
      have hmem := List.getElem_mem hlt
      rw [List.drop_eq_getElem_cons hlt, onceF] at hfi
      generalize l[k] = x at *
      obtain ⟨A, c, EA, ec, h0, h1, h2, hk, he, h11, h12, hek⟩ := hpart2
      have q0 : wr.cell? (ad.add (k * 13)) = some (.string x.name) := h0
      have q1 : wr.cell? ⟨(ad.add (k * 13)).block, (ad.add (k * 13)).off + 1, none⟩ = some (.int .i64 x.frm) := h1
      have q2 : wr.cell? ⟨(ad.add (k * 13)).block, (ad.add (k * 13)).off + 2, none⟩ = some (.int .i64 x.too) := h2
      have q3 : wr.cell? ⟨(ad.add (k * 13)).block, (ad.add (k * 13)).off + 3, none⟩ = some (.int .i64 x.guard.op) := hk.1
      have q4 : wr.cell? ⟨(ad.add (k * 13)).block, (ad.add (k * 13)).off + 4, none⟩ = some (.slice A x.guard.kids.length c) := hk.2.1
      have q5 : wr.cell? ⟨(ad.add (k * 13)).block, (ad.add (k * 13)).off + 5, none⟩ = some (.string x.guard.name) := hk.2.2.1
      have q6 : wr.cell? ⟨(ad.add (k * 13)).block, (ad.add (k * 13)).off + 6, none⟩ = some (.int .i64 x.guard.val.k) := hk.2.2.2.1
      have q7 : wr.cell? ⟨(ad.add (k * 13)).block, (ad.add (k * 13)).off + 7, none⟩ = some (.int .i64 x.guard.val.i) := hk.2.2.2.2.1
      have q8 : wr.cell? ⟨(ad.add (k * 13)).block, (ad.add (k * 13)).off + 8, none⟩ = some (.bool x.guard.val.b) := hk.2.2.2.2.2.1
      have q9 : wr.cell? ⟨(ad.add (k * 13)).block, (ad.add (k * 13)).off + 9, none⟩ = some (.string x.guard.val.s) := hk.2.2.2.2.2.2.1
      have q10 : wr.cell? ⟨(ad.add (k * 13)).block, (ad.add (k * 13)).off + 10, none⟩ = some (.float .f64 x.guard.val.n) := hk.2.2.2.2.2.2.2
      have q11 : wr.cell? ⟨(ad.add (k * 13)).block, (ad.add (k * 13)).off + 11, none⟩ = some (.slice EA x.effs.length ec) := h11
      have q12 : wr.cell? ⟨(ad.add (k * 13)).block, (ad.add (k * 13)).off + 12, none⟩ = some (.int .i64 x.org) := h12
      have hc := fun o => HP.out x hmem A c EA ec (wr.alloc o) (hb.trans ((alloc1 wr o).mono hb.size))
      clear hpart hmem
      have HC := Lib.hid hc
      rcases hd : (g x == (k : Int)) with _ | _
      all_goals
        rw [hd] at hfi
        have hne : (g x != (k : Int)) = !(g x == (k : Int)) := rfl
        rw [hd] at hne
        have HF := Lib.hid hfi
        clear hfi hd hc he hek
        try simp only [Bool.not_true, Bool.not_false] at hne
        go_wp2_with (first | fail | (go_at_call 127; refine (HC.out _).mono ?_; rintro e w1 ⟨rfl, hb1⟩))
      · go_ret
        exact ⟨ret_bool (by have h := HF.out; simpa using h), (hb.trans ((alloc1 wr _).mono hb.size)).trans (hb1.mono (Nat.le_trans hb.size (alloc1 wr _).size))⟩
      · go_roundw
        case rel => exact ⟨k + 1, by omega, by go_num, by have h := HF.out; simpa using h, (hb.trans ((alloc1 wr _).mono hb.size)).trans (hb1.mono (Nat.le_trans hb.size (alloc1 wr _).size))⟩
        case measure => simp [intOf]; omega
    · obtain rfl : k = l.length := by omega
      rw [List.drop_length, onceF] at hfi
      have HF := Lib.hid hfi
      clear hfi
      go_wp2
      go_ret
      exact ⟨ret_bool HF.out, hb⟩
theorem clo1_Move (p : Nat) (ct : Ctr) (FA : Option Addr) (fc : Nat) (SA : Option Addr) (sc : Nat) (MA : Option Addr) (mc : Nat) (x : Mv) (A : Option Addr) (c : Nat) (EA : Option Addr) (ec : Nat) (w : World)
    (h0 : w.cell? ⟨p, 0, none⟩ = some (.string ct.name)) (h1 : w.cell? ⟨p, 1, none⟩ = some (.slice FA ct.fs.length fc)) (h2 : w.cell? ⟨p, 2, none⟩ = some (.slice SA ct.ss.length sc)) (h3 : w.cell? ⟨p, 3, none⟩ = some (.slice MA ct.ms.length mc)) (h : CtK w ct FA fc SA sc MA mc) :
    Calls Tryz.prog 127 #[agMv x A c EA ec, .pointer (some ⟨p, 0, none⟩)] w (VMk (.int .i64 (placeN x.name (ct.ms.map fun x => x.name) 0)) w) := by
  have hp : p < w.heap.size := World.block_lt_of_cell? w _ h0
  have hne : ¬ w.heap.size = p := by omega
  have HC := Lib.hid (fun o => cMove_any ct FA fc SA sc MA mc x.name (w.alloc o) (h.below (alloc1 w o)))
  clear h
  generalize placeN x.name (ct.ms.map fun x => x.name) 0 = r at *
  go_enter Tryz.func127, Tryz.ntmps127
  go_wp2_with (go_at_call 128; refine (HC.out _).mono ?_; rintro e w1 ⟨rfl, hb1⟩)
  go_ret
  exact ⟨rfl, bel2 (alloc1 w _) hb1⟩

theorem first_all {α : Type} (P : α → Bool) : ∀ (l : List α) (i : Nat), decide (0 ≤ firstB (fun x => !P x) l i) = !(l.all P)
  | [], i => by simp [firstB]
  | x :: l, i => by
    rw [firstB, List.all_cons]
    cases h : P x with
    | false => simp
    | true =>
      rw [if_neg (by simp), Bool.true_and]
      exact first_all P l (i + 1)
theorem eclo_Field (p : Nat) (b : Bool) (x : Fld) (A : Option Addr) (c : Nat) (w : World) (h : w.cell? ⟨p, 0, none⟩ = some (.func (Fn.func 121) #[] #[]))
    (hcall : ∀ W, Below w.heap.size w W → Calls Tryz.prog 121 #[agFl x A c] W (VMk (.bool b) W)) :
    Calls Tryz.prog 173 #[agFl x A c, .pointer (some ⟨p, 0, none⟩)] w (VMk (.bool (!b)) w) := by
  have hp : p < w.heap.size := World.block_lt_of_cell? w _ h
  have hne : ¬ w.heap.size = p := by omega
  have HC := Lib.hid hcall
  have hsf := fun (w : World) (a : Addr) (m : Mode) (b : Nat) => run_store Tryz.prog w a (.float .f64 b) m rfl
  clear hcall
  cases b
  all_goals
    go_enter Tryz.func173, Tryz.ntmps173
    go_wp2_with (go_at_call 121; refine (HC.out _ (alloc1 w _)).mono ?_; rintro e w1 ⟨rfl, hb1⟩)
    go_ret
    exact ⟨rfl, bel2 (alloc1 w _) hb1⟩
set_option maxHeartbeats 1000000 in
theorem idx_eField (P : Fld → Bool) (p : Nat) (A : Option Addr) (cc : Nat) (l : List Fld) (w : World) (hf : FldK w A cc l)
    (hcall : ∀ x ∈ l, ∀ (A : Option Addr) (c : Nat) W, Below w.heap.size w W → Ss W (.slice A x.en.length c) x.en → Calls Tryz.prog 173 #[agFl x A c, .pointer (some ⟨p, 0, none⟩)] W (VMk (.bool (P x)) W)) :
    Calls Tryz.prog 170 #[.slice A l.length cc, .func (Fn.func 173) #[] #[.pointer (some ⟨p, 0, none⟩)]] w (VMk (.int .i64 (firstB P l 0)) w) := by
  obtain ⟨h1, h2, h3, h4⟩ := hf
  unfold maxLen at h2
  have hlen : l.length ≤ 9223372036854775807 := by omega
  have HP := Lib.hid hcall
  have H4 := Lib.hid h4
  clear hcall h4 h1 h2 h3
  have hsf := fun (w : World) (a : Addr) (m : Mode) (b : Nat) => run_store Tryz.prog w a (.float .f64 b) m rfl
  go_enter Tryz.func170, Tryz.ntmps170
  go_wp2
  go_loopw [8] (fun i wr => ∃ k : Nat, k ≤ l.length ∧ i = .int .i64 k ∧ firstB P (l.drop k) k = firstB P l 0 ∧ Below w.heap.size w wr) (fun i _ => l.length - (intOf i).toNat)
  case atStart => exact ⟨0, Nat.zero_le _, rfl, rfl, Below.refl _ _⟩
  case round =>
    obtain ⟨k, hk, rfl, hfi, hb⟩ := hrel
    by_cases hlt : k < l.length
    · obtain ⟨ad, rfl, hbl, hpart⟩ := H4.out k hlt
      have hpart2 := hpart.below hb (by rw [block_add]; exact hbl)
      have hmem := List.getElem_mem hlt
      rw [List.drop_eq_getElem_cons hlt, firstB] at hfi
      generalize l[k] = x at *
      obtain ⟨A, c, hq, hdeep⟩ := hpart2
      have q0 : wr.cell? (ad.add (k * 8)) = some (.string x.f.name) := hq.1
      have q1 : wr.cell? ⟨(ad.add (k * 8)).block, (ad.add (k * 8)).off + 1, none⟩ = some (.int .i64 x.f.kind) := hq.2.1
      have q2 : wr.cell? ⟨(ad.add (k * 8)).block, (ad.add (k * 8)).off + 2, none⟩ = some (.slice A x.en.length c) := hq.2.2.1
      have q3 : wr.cell? ⟨(ad.add (k * 8)).block, (ad.add (k * 8)).off + 3, none⟩ = some (.int .i64 x.y.k) := hq.2.2.2.1
      have q4 : wr.cell? ⟨(ad.add (k * 8)).block, (ad.add (k * 8)).off + 4, none⟩ = some (.int .i64 x.y.i) := hq.2.2.2.2.1
      have q5 : wr.cell? ⟨(ad.add (k * 8)).block, (ad.add (k * 8)).off + 5, none⟩ = some (.bool x.y.b) := hq.2.2.2.2.2.1
      have q6 : wr.cell? ⟨(ad.add (k * 8)).block, (ad.add (k * 8)).off + 6, none⟩ = some (.string x.y.s) := hq.2.2.2.2.2.2.1
      have q7 : wr.cell? ⟨(ad.add (k * 8)).block, (ad.add (k * 8)).off + 7, none⟩ = some (.float .f64 x.y.n) := hq.2.2.2.2.2.2.2
      have hc := HP.out x hmem A c wr hb hdeep
      clear hpart hmem
      rcases hd : P x with _ | _
      all_goals
        rw [hd] at hc hfi
        have HC := Lib.hid hc
        have HF := Lib.hid hfi
        clear hc hfi hd hq hdeep
        go_wp2_with (go_at_call 173; refine HC.out.mono ?_; rintro e w1 ⟨rfl, hb1⟩)
      · go_roundw
        case rel => exact ⟨k + 1, by omega, by go_num, by have h := HF.out; rwa [if_neg (by decide)] at h, hb.trans (hb1.mono hb.size)⟩
        case measure => simp [intOf]; omega
      · go_ret
        exact ⟨ret_int (by have h := HF.out; simpa using h), hb.trans (hb1.mono hb.size)⟩
    · obtain rfl : k = l.length := by omega
      rw [List.drop_length, firstB] at hfi
      have HF := Lib.hid hfi
      clear hfi
      go_wp2
      go_ret
      exact ⟨ret_int HF.out, hb⟩
theorem cont_Field (p : Nat) (A : Option Addr) (n cc : Nat) (r : Int) (w : World) (hi : Calls Tryz.prog 170 #[.slice A n cc, .func (Fn.func 173) #[] #[.pointer (some ⟨p, 0, none⟩)]] w (VMk (.int .i64 r) w)) :
    Calls Tryz.prog 172 #[.slice A n cc, .func (Fn.func 173) #[] #[.pointer (some ⟨p, 0, none⟩)]] w (VMk (.bool (decide (0 ≤ r))) w) := by
  have HI := Lib.hid hi
  clear hi
  by_cases h0 : 0 ≤ r
  · have hd : decide (0 ≤ r) = true := decide_eq_true h0
    rw [hd]
    clear hd
    go_enter Tryz.func172, Tryz.ntmps172
    go_wp2_with (go_at_call 170; refine HI.out.mono ?_; rintro e w1 ⟨rfl, hb1⟩)
    go_ret
    exact ⟨ret_bool (by first | (simp; done) | (simp; omega)), hb1⟩
  · have hd : decide (0 ≤ r) = false := decide_eq_false h0
    rw [hd]
    clear hd
    go_enter Tryz.func172, Tryz.ntmps172
    go_wp2_with (go_at_call 170; refine HI.out.mono ?_; rintro e w1 ⟨rfl, hb1⟩)
    go_ret
    exact ⟨ret_bool (by first | (simp; done) | (simp; omega)), hb1⟩
set_option maxHeartbeats 1000000 in
theorem each_Field (P : Fld → Bool) (A : Option Addr) (cc : Nat) (l : List Fld) (w : World) (hf : FldK w A cc l)
    (hcall : ∀ x ∈ l, ∀ (A : Option Addr) (c : Nat) W, Below w.heap.size w W → Ss W (.slice A x.en.length c) x.en → Calls Tryz.prog 121 #[agFl x A c] W (VMk (.bool (P x)) W)) :
    Calls Tryz.prog 120 #[.slice A l.length cc, .func (Fn.func 121) #[] #[]] w (VMk (.bool (l.all P)) w) := by
  have hcell : (w.alloc (.cells #[.func (Fn.func 121) #[] #[]] 124)).cell? ⟨w.heap.size, 0, none⟩ = some (.func (Fn.func 121) #[] #[]) := (cell_of_row _ _ 0 _ _ (0, 0) (heap_alloc_new w _)).trans rfl
  have hb0 := alloc1 w (.cells #[.func (Fn.func 121) #[] #[]] 124)
  have hi := idx_eField (fun x => !P x) w.heap.size A cc l _ (FldK.below hf hb0) (fun x hx A c W hW hdeep => eclo_Field w.heap.size (P x) x A c W (keepc hW (World.block_lt_of_cell? _ _ hcell) hcell) (fun W2 hW2 => hcall x hx A c W2 (bel2 (bel2 hb0 hW) hW2) (Rd.below hdeep hW2 (Nat.le_refl _))))
  have hi := cont_Field _ _ _ _ _ _ hi
  rw [first_all P l 0] at hi
  generalize l.all P = b at *
  have HI := Lib.hid hi
  have HB := Lib.hid hb0
  clear hi hb0 hcell hcall hf
  have hsf := fun (w : World) (a : Addr) (m : Mode) (b : Nat) => run_store Tryz.prog w a (.float .f64 b) m rfl
  cases b
  all_goals
    go_enter Tryz.func120, Tryz.ntmps120
    go_wp2_with (go_at_call 172; refine HI.out.mono ?_; rintro e w1 ⟨rfl, hb1⟩)
    go_ret
    exact ⟨rfl, bel2 HB.out hb1⟩
theorem eclo_Stage (p : Nat) (b : Bool) (x : Stg) (A : Option Addr) (c : Nat) (w : World) (h : w.cell? ⟨p, 0, none⟩ = some (.func (Fn.func 125) #[] #[]))
    (hcall : ∀ W, Below w.heap.size w W → Calls Tryz.prog 125 #[agSt x A c] W (VMk (.bool b) W)) :
    Calls Tryz.prog 176 #[agSt x A c, .pointer (some ⟨p, 0, none⟩)] w (VMk (.bool (!b)) w) := by
  have hp : p < w.heap.size := World.block_lt_of_cell? w _ h
  have hne : ¬ w.heap.size = p := by omega
  have HC := Lib.hid hcall
  have hsf := fun (w : World) (a : Addr) (m : Mode) (b : Nat) => run_store Tryz.prog w a (.float .f64 b) m rfl
  clear hcall
  cases b
  all_goals
    go_enter Tryz.func176, Tryz.ntmps176
    go_wp2_with (go_at_call 125; refine (HC.out _ (alloc1 w _)).mono ?_; rintro e w1 ⟨rfl, hb1⟩)
    go_ret
    exact ⟨rfl, bel2 (alloc1 w _) hb1⟩
set_option maxHeartbeats 1000000 in
theorem idx_eStage (P : Stg → Bool) (p : Nat) (A : Option Addr) (cc : Nat) (l : List Stg) (w : World) (hf : StgK w A cc l)
    (hcall : ∀ x ∈ l, ∀ (A : Option Addr) (c : Nat) W, Below w.heap.size w W → Is W (.slice A x.orgs.length c) x.orgs → Calls Tryz.prog 176 #[agSt x A c, .pointer (some ⟨p, 0, none⟩)] W (VMk (.bool (P x)) W)) :
    Calls Tryz.prog 79 #[.slice A l.length cc, .func (Fn.func 176) #[] #[.pointer (some ⟨p, 0, none⟩)]] w (VMk (.int .i64 (firstB P l 0)) w) := by
  obtain ⟨h1, h2, h3, h4⟩ := hf
  unfold maxLen at h2
  have hlen : l.length ≤ 9223372036854775807 := by omega
  have HP := Lib.hid hcall
  have H4 := Lib.hid h4
  clear hcall h4 h1 h2 h3
  have hsf := fun (w : World) (a : Addr) (m : Mode) (b : Nat) => run_store Tryz.prog w a (.float .f64 b) m rfl
  go_enter Tryz.func79, Tryz.ntmps79
  go_wp2
  go_loopw [8] (fun i wr => ∃ k : Nat, k ≤ l.length ∧ i = .int .i64 k ∧ firstB P (l.drop k) k = firstB P l 0 ∧ Below w.heap.size w wr) (fun i _ => l.length - (intOf i).toNat)
  case atStart => exact ⟨0, Nat.zero_le _, rfl, rfl, Below.refl _ _⟩
  case round =>
    obtain ⟨k, hk, rfl, hfi, hb⟩ := hrel
    by_cases hlt : k < l.length
    · obtain ⟨ad, rfl, hbl, hpart⟩ := H4.out k hlt
      have hpart2 := hpart.below hb (by rw [block_add]; exact hbl)
      have hmem := List.getElem_mem hlt
      rw [List.drop_eq_getElem_cons hlt, firstB] at hfi
      generalize l[k] = x at *
      obtain ⟨A, c, h0, h1, h2, hdeep⟩ := hpart2
      have q0 : wr.cell? (ad.add (k * 3)) = some (.string x.name) := h0
      have q1 : wr.cell? ⟨(ad.add (k * 3)).block, (ad.add (k * 3)).off + 1, none⟩ = some (.int .i64 x.need) := h1
      have q2 : wr.cell? ⟨(ad.add (k * 3)).block, (ad.add (k * 3)).off + 2, none⟩ = some (.slice A x.orgs.length c) := h2
      have hc := HP.out x hmem A c wr hb hdeep
      clear hpart hmem
      rcases hd : P x with _ | _
      all_goals
        rw [hd] at hc hfi
        have HC := Lib.hid hc
        have HF := Lib.hid hfi
        clear hc hfi hd hdeep
        go_wp2_with (go_at_call 176; refine HC.out.mono ?_; rintro e w1 ⟨rfl, hb1⟩)
      · go_roundw
        case rel => exact ⟨k + 1, by omega, by go_num, by have h := HF.out; rwa [if_neg (by decide)] at h, hb.trans (hb1.mono hb.size)⟩
        case measure => simp [intOf]; omega
      · go_ret
        exact ⟨ret_int (by have h := HF.out; simpa using h), hb.trans (hb1.mono hb.size)⟩
    · obtain rfl : k = l.length := by omega
      rw [List.drop_length, firstB] at hfi
      have HF := Lib.hid hfi
      clear hfi
      go_wp2
      go_ret
      exact ⟨ret_int HF.out, hb⟩
theorem cont_Stage (p : Nat) (A : Option Addr) (n cc : Nat) (r : Int) (w : World) (hi : Calls Tryz.prog 79 #[.slice A n cc, .func (Fn.func 176) #[] #[.pointer (some ⟨p, 0, none⟩)]] w (VMk (.int .i64 r) w)) :
    Calls Tryz.prog 175 #[.slice A n cc, .func (Fn.func 176) #[] #[.pointer (some ⟨p, 0, none⟩)]] w (VMk (.bool (decide (0 ≤ r))) w) := by
  have HI := Lib.hid hi
  clear hi
  by_cases h0 : 0 ≤ r
  · have hd : decide (0 ≤ r) = true := decide_eq_true h0
    rw [hd]
    clear hd
    go_enter Tryz.func175, Tryz.ntmps175
    go_wp2_with (go_at_call 79; refine HI.out.mono ?_; rintro e w1 ⟨rfl, hb1⟩)
    go_ret
    exact ⟨ret_bool (by first | (simp; done) | (simp; omega)), hb1⟩
  · have hd : decide (0 ≤ r) = false := decide_eq_false h0
    rw [hd]
    clear hd
    go_enter Tryz.func175, Tryz.ntmps175
    go_wp2_with (go_at_call 79; refine HI.out.mono ?_; rintro e w1 ⟨rfl, hb1⟩)
    go_ret
    exact ⟨ret_bool (by first | (simp; done) | (simp; omega)), hb1⟩
set_option maxHeartbeats 1000000 in
theorem each_Stage (P : Stg → Bool) (A : Option Addr) (cc : Nat) (l : List Stg) (w : World) (hf : StgK w A cc l)
    (hcall : ∀ x ∈ l, ∀ (A : Option Addr) (c : Nat) W, Below w.heap.size w W → Is W (.slice A x.orgs.length c) x.orgs → Calls Tryz.prog 125 #[agSt x A c] W (VMk (.bool (P x)) W)) :
    Calls Tryz.prog 124 #[.slice A l.length cc, .func (Fn.func 125) #[] #[]] w (VMk (.bool (l.all P)) w) := by
  have hcell : (w.alloc (.cells #[.func (Fn.func 125) #[] #[]] 123)).cell? ⟨w.heap.size, 0, none⟩ = some (.func (Fn.func 125) #[] #[]) := (cell_of_row _ _ 0 _ _ (0, 0) (heap_alloc_new w _)).trans rfl
  have hb0 := alloc1 w (.cells #[.func (Fn.func 125) #[] #[]] 123)
  have hi := idx_eStage (fun x => !P x) w.heap.size A cc l _ (StgK.below hf hb0) (fun x hx A c W hW hdeep => eclo_Stage w.heap.size (P x) x A c W (keepc hW (World.block_lt_of_cell? _ _ hcell) hcell) (fun W2 hW2 => hcall x hx A c W2 (bel2 (bel2 hb0 hW) hW2) (Rd.below hdeep hW2 (Nat.le_refl _))))
  have hi := cont_Stage _ _ _ _ _ _ hi
  rw [first_all P l 0] at hi
  generalize l.all P = b at *
  have HI := Lib.hid hi
  have HB := Lib.hid hb0
  clear hi hb0 hcell hcall hf
  have hsf := fun (w : World) (a : Addr) (m : Mode) (b : Nat) => run_store Tryz.prog w a (.float .f64 b) m rfl
  cases b
  all_goals
    go_enter Tryz.func124, Tryz.ntmps124
    go_wp2_with (go_at_call 175; refine HI.out.mono ?_; rintro e w1 ⟨rfl, hb1⟩)
    go_ret
    exact ⟨rfl, bel2 HB.out hb1⟩
theorem eclo_Move (pc : Nat) (p : Nat) (b : Bool) (x : Mv) (A : Option Addr) (c : Nat) (EA : Option Addr) (ec : Nat) (w : World) (h : w.cell? ⟨p, 0, none⟩ = some (.func (Fn.func 130) #[] #[.pointer (some ⟨pc, 0, none⟩)]))
    (hcall : ∀ W, Below w.heap.size w W → Calls Tryz.prog 130 #[agMv x A c EA ec, .pointer (some ⟨pc, 0, none⟩)] W (VMk (.bool b) W)) :
    Calls Tryz.prog 180 #[agMv x A c EA ec, .pointer (some ⟨p, 0, none⟩)] w (VMk (.bool (!b)) w) := by
  have hp : p < w.heap.size := World.block_lt_of_cell? w _ h
  have hne : ¬ w.heap.size = p := by omega
  have HC := Lib.hid hcall
  have hsf := fun (w : World) (a : Addr) (m : Mode) (b : Nat) => run_store Tryz.prog w a (.float .f64 b) m rfl
  clear hcall
  cases b
  all_goals
    go_enter Tryz.func180, Tryz.ntmps180
    go_wp2_with (go_at_call 130; refine (HC.out _ (alloc1 w _)).mono ?_; rintro e w1 ⟨rfl, hb1⟩)
    go_ret
    exact ⟨rfl, bel2 (alloc1 w _) hb1⟩
set_option maxHeartbeats 1000000 in
theorem idx_eMove (P : Mv → Bool) (p : Nat) (A : Option Addr) (cc : Nat) (l : List Mv) (w : World) (hf : MvK w A cc l)
    (hcall : ∀ x ∈ l, ∀ (A : Option Addr) (c : Nat) (EA : Option Addr) (ec : Nat) W, Below w.heap.size w W → (ExE W A c x.guard ∧ EffK W EA ec x.effs) → Calls Tryz.prog 180 #[agMv x A c EA ec, .pointer (some ⟨p, 0, none⟩)] W (VMk (.bool (P x)) W)) :
    Calls Tryz.prog 178 #[.slice A l.length cc, .func (Fn.func 180) #[] #[.pointer (some ⟨p, 0, none⟩)]] w (VMk (.int .i64 (firstB P l 0)) w) := by
  obtain ⟨h1, h2, h3, h4⟩ := hf
  unfold maxLen at h2
  have hlen : l.length ≤ 9223372036854775807 := by omega
  have HP := Lib.hid hcall
  have H4 := Lib.hid h4
  clear hcall h4 h1 h2 h3
  have hsf := fun (w : World) (a : Addr) (m : Mode) (b : Nat) => run_store Tryz.prog w a (.float .f64 b) m rfl
  go_enter Tryz.func178, Tryz.ntmps178
  go_wp2
  go_loopw [8] (fun i wr => ∃ k : Nat, k ≤ l.length ∧ i = .int .i64 k ∧ firstB P (l.drop k) k = firstB P l 0 ∧ Below w.heap.size w wr) (fun i _ => l.length - (intOf i).toNat)
  case atStart => exact ⟨0, Nat.zero_le _, rfl, rfl, Below.refl _ _⟩
  case round =>
    obtain ⟨k, hk, rfl, hfi, hb⟩ := hrel
    by_cases hlt : k < l.length
    · obtain ⟨ad, rfl, hbl, hpart⟩ := H4.out k hlt
      have hpart2 := hpart.below hb (by rw [block_add]; exact hbl)
      have hmem := List.getElem_mem hlt
      rw [List.drop_eq_getElem_cons hlt, firstB] at hfi
      generalize l[k] = x at *
      obtain ⟨A, c, EA, ec, h0, h1, h2, hk, he, h11, h12, hek⟩ := hpart2
      have q0 : wr.cell? (ad.add (k * 13)) = some (.string x.name) := h0
      have q1 : wr.cell? ⟨(ad.add (k * 13)).block, (ad.add (k * 13)).off + 1, none⟩ = some (.int .i64 x.frm) := h1
      have q2 : wr.cell? ⟨(ad.add (k * 13)).block, (ad.add (k * 13)).off + 2, none⟩ = some (.int .i64 x.too) := h2
      have q3 : wr.cell? ⟨(ad.add (k * 13)).block, (ad.add (k * 13)).off + 3, none⟩ = some (.int .i64 x.guard.op) := hk.1
      have q4 : wr.cell? ⟨(ad.add (k * 13)).block, (ad.add (k * 13)).off + 4, none⟩ = some (.slice A x.guard.kids.length c) := hk.2.1
      have q5 : wr.cell? ⟨(ad.add (k * 13)).block, (ad.add (k * 13)).off + 5, none⟩ = some (.string x.guard.name) := hk.2.2.1
      have q6 : wr.cell? ⟨(ad.add (k * 13)).block, (ad.add (k * 13)).off + 6, none⟩ = some (.int .i64 x.guard.val.k) := hk.2.2.2.1
      have q7 : wr.cell? ⟨(ad.add (k * 13)).block, (ad.add (k * 13)).off + 7, none⟩ = some (.int .i64 x.guard.val.i) := hk.2.2.2.2.1
      have q8 : wr.cell? ⟨(ad.add (k * 13)).block, (ad.add (k * 13)).off + 8, none⟩ = some (.bool x.guard.val.b) := hk.2.2.2.2.2.1
      have q9 : wr.cell? ⟨(ad.add (k * 13)).block, (ad.add (k * 13)).off + 9, none⟩ = some (.string x.guard.val.s) := hk.2.2.2.2.2.2.1
      have q10 : wr.cell? ⟨(ad.add (k * 13)).block, (ad.add (k * 13)).off + 10, none⟩ = some (.float .f64 x.guard.val.n) := hk.2.2.2.2.2.2.2
      have q11 : wr.cell? ⟨(ad.add (k * 13)).block, (ad.add (k * 13)).off + 11, none⟩ = some (.slice EA x.effs.length ec) := h11
      have q12 : wr.cell? ⟨(ad.add (k * 13)).block, (ad.add (k * 13)).off + 12, none⟩ = some (.int .i64 x.org) := h12
      have hc := HP.out x hmem A c EA ec wr hb ⟨he, hek⟩
      clear hpart hmem
      rcases hd : P x with _ | _
      all_goals
        rw [hd] at hc hfi
        have HC := Lib.hid hc
        have HF := Lib.hid hfi
        clear hc hfi hd he hek
        go_wp2_with (go_at_call 180; refine HC.out.mono ?_; rintro e w1 ⟨rfl, hb1⟩)
      · go_roundw
        case rel => exact ⟨k + 1, by omega, by go_num, by have h := HF.out; rwa [if_neg (by decide)] at h, hb.trans (hb1.mono hb.size)⟩
        case measure => simp [intOf]; omega
      · go_ret
        exact ⟨ret_int (by have h := HF.out; simpa using h), hb.trans (hb1.mono hb.size)⟩
    · obtain rfl : k = l.length := by omega
      rw [List.drop_length, firstB] at hfi
      have HF := Lib.hid hfi
      clear hfi
      go_wp2
      go_ret
      exact ⟨ret_int HF.out, hb⟩
theorem cont_Move (p : Nat) (A : Option Addr) (n cc : Nat) (r : Int) (w : World) (hi : Calls Tryz.prog 178 #[.slice A n cc, .func (Fn.func 180) #[] #[.pointer (some ⟨p, 0, none⟩)]] w (VMk (.int .i64 r) w)) :
    Calls Tryz.prog 160 #[.slice A n cc, .func (Fn.func 180) #[] #[.pointer (some ⟨p, 0, none⟩)]] w (VMk (.bool (decide (0 ≤ r))) w) := by
  have HI := Lib.hid hi
  clear hi
  by_cases h0 : 0 ≤ r
  · have hd : decide (0 ≤ r) = true := decide_eq_true h0
    rw [hd]
    clear hd
    go_enter Tryz.func160, Tryz.ntmps160
    go_wp2_with (go_at_call 178; refine HI.out.mono ?_; rintro e w1 ⟨rfl, hb1⟩)
    go_ret
    exact ⟨ret_bool (by first | (simp; done) | (simp; omega)), hb1⟩
  · have hd : decide (0 ≤ r) = false := decide_eq_false h0
    rw [hd]
    clear hd
    go_enter Tryz.func160, Tryz.ntmps160
    go_wp2_with (go_at_call 178; refine HI.out.mono ?_; rintro e w1 ⟨rfl, hb1⟩)
    go_ret
    exact ⟨ret_bool (by first | (simp; done) | (simp; omega)), hb1⟩
set_option maxHeartbeats 1000000 in
theorem each_Move (pc : Nat) (P : Mv → Bool) (A : Option Addr) (cc : Nat) (l : List Mv) (w : World) (hf : MvK w A cc l)
    (hcall : ∀ x ∈ l, ∀ (A : Option Addr) (c : Nat) (EA : Option Addr) (ec : Nat) W, Below w.heap.size w W → (ExE W A c x.guard ∧ EffK W EA ec x.effs) → Calls Tryz.prog 130 #[agMv x A c EA ec, .pointer (some ⟨pc, 0, none⟩)] W (VMk (.bool (P x)) W)) :
    Calls Tryz.prog 129 #[.slice A l.length cc, .func (Fn.func 130) #[] #[.pointer (some ⟨pc, 0, none⟩)]] w (VMk (.bool (l.all P)) w) := by
  have hcell : (w.alloc (.cells #[.func (Fn.func 130) #[] #[.pointer (some ⟨pc, 0, none⟩)]] 169)).cell? ⟨w.heap.size, 0, none⟩ = some (.func (Fn.func 130) #[] #[.pointer (some ⟨pc, 0, none⟩)]) := (cell_of_row _ _ 0 _ _ (0, 0) (heap_alloc_new w _)).trans rfl
  have hb0 := alloc1 w (.cells #[.func (Fn.func 130) #[] #[.pointer (some ⟨pc, 0, none⟩)]] 169)
  have hi := idx_eMove (fun x => !P x) w.heap.size A cc l _ (MvK.below hf hb0) (fun x hx A c EA ec W hW hdeep => eclo_Move pc w.heap.size (P x) x A c EA ec W (keepc hW (World.block_lt_of_cell? _ _ hcell) hcell) (fun W2 hW2 => hcall x hx A c EA ec W2 (bel2 (bel2 hb0 hW) hW2) ⟨hdeep.1.below hW2, EffK.below hdeep.2 hW2⟩))
  have hi := cont_Move _ _ _ _ _ _ hi
  rw [first_all P l 0] at hi
  generalize l.all P = b at *
  have HI := Lib.hid hi
  have HB := Lib.hid hb0
  clear hi hb0 hcell hcall hf
  have hsf := fun (w : World) (a : Addr) (m : Mode) (b : Nat) => run_store Tryz.prog w a (.float .f64 b) m rfl
  cases b
  all_goals
    go_enter Tryz.func129, Tryz.ntmps129
    go_wp2_with (go_at_call 160; refine HI.out.mono ?_; rintro e w1 ⟨rfl, hb1⟩)
    go_ret
    exact ⟨rfl, bel2 HB.out hb1⟩

abbrev agEf (x : Eff) (A : Option Addr) (c : Nat) : Value := .agg #[.string x.field, .int .i64 x.e.op, .slice A x.e.kids.length c, .string x.e.name, .int .i64 x.e.val.k, .int .i64 x.e.val.i, .bool x.e.val.b, .string x.e.val.s, .float .f64 x.e.val.n]
set_option maxHeartbeats 1000000 in
theorem idx_Effect (P : Eff → Bool) (p : Nat) (A : Option Addr) (cc : Nat) (l : List Eff) (w : World) (hf : EffK w A cc l)
    (hcall : ∀ x ∈ l, ∀ (A : Option Addr) (c : Nat) W, Below w.heap.size w W → ExE W A c x.e → Calls Tryz.prog 249 #[agEf x A c, .pointer (some ⟨p, 0, none⟩)] W (VMk (.bool (P x)) W)) :
    Calls Tryz.prog 248 #[.slice A l.length cc, .func (Fn.func 249) #[] #[.pointer (some ⟨p, 0, none⟩)]] w (VMk (.int .i64 (firstB P l 0)) w) := by
  obtain ⟨h1, h2, h3, h4⟩ := hf
  unfold maxLen at h2
  have hlen : l.length ≤ 9223372036854775807 := by omega
  have HP := Lib.hid hcall
  have H4 := Lib.hid h4
  clear hcall h4 h1 h2 h3
  have hsf := fun (w : World) (a : Addr) (m : Mode) (b : Nat) => run_store Tryz.prog w a (.float .f64 b) m rfl
  go_enter Tryz.func248, Tryz.ntmps248
  go_wp2
  go_loopw [8] (fun i wr => ∃ k : Nat, k ≤ l.length ∧ i = .int .i64 k ∧ firstB P (l.drop k) k = firstB P l 0 ∧ Below w.heap.size w wr) (fun i _ => l.length - (intOf i).toNat)
  case atStart => exact ⟨0, Nat.zero_le _, rfl, rfl, Below.refl _ _⟩
  case round =>
    obtain ⟨k, hk, rfl, hfi, hb⟩ := hrel
    by_cases hlt : k < l.length
    · obtain ⟨ad, rfl, hbl, hpart⟩ := H4.out k hlt
      have hpart2 := hpart.below hb (by rw [block_add]; exact hbl)
      have hmem := List.getElem_mem hlt
      rw [List.drop_eq_getElem_cons hlt, firstB] at hfi
      generalize l[k] = x at *
      obtain ⟨A, c, h0, hk, hdeep⟩ := hpart2
      have q0 : wr.cell? (ad.add (k * 9)) = some (.string x.field) := h0
      have q1 : wr.cell? ⟨(ad.add (k * 9)).block, (ad.add (k * 9)).off + 1, none⟩ = some (.int .i64 x.e.op) := hk.1
      have q2 : wr.cell? ⟨(ad.add (k * 9)).block, (ad.add (k * 9)).off + 2, none⟩ = some (.slice A x.e.kids.length c) := hk.2.1
      have q3 : wr.cell? ⟨(ad.add (k * 9)).block, (ad.add (k * 9)).off + 3, none⟩ = some (.string x.e.name) := hk.2.2.1
      have q4 : wr.cell? ⟨(ad.add (k * 9)).block, (ad.add (k * 9)).off + 4, none⟩ = some (.int .i64 x.e.val.k) := hk.2.2.2.1
      have q5 : wr.cell? ⟨(ad.add (k * 9)).block, (ad.add (k * 9)).off + 5, none⟩ = some (.int .i64 x.e.val.i) := hk.2.2.2.2.1
      have q6 : wr.cell? ⟨(ad.add (k * 9)).block, (ad.add (k * 9)).off + 6, none⟩ = some (.bool x.e.val.b) := hk.2.2.2.2.2.1
      have q7 : wr.cell? ⟨(ad.add (k * 9)).block, (ad.add (k * 9)).off + 7, none⟩ = some (.string x.e.val.s) := hk.2.2.2.2.2.2.1
      have q8 : wr.cell? ⟨(ad.add (k * 9)).block, (ad.add (k * 9)).off + 8, none⟩ = some (.float .f64 x.e.val.n) := hk.2.2.2.2.2.2.2
      have hc := HP.out x hmem A c wr hb hdeep
      clear hpart hmem
      rcases hd : P x with _ | _
      all_goals
        rw [hd] at hc hfi
        have HC := Lib.hid hc
        have HF := Lib.hid hfi
        clear hc hfi hd hdeep
        go_wp2_with (go_at_call 249; refine HC.out.mono ?_; rintro e w1 ⟨rfl, hb1⟩)
      · go_roundw
        case rel => exact ⟨k + 1, by omega, by go_num, by have h := HF.out; rwa [if_neg (by decide)] at h, hb.trans (hb1.mono hb.size)⟩
        case measure => simp [intOf]; omega
      · go_ret
        exact ⟨ret_int (by have h := HF.out; simpa using h), hb.trans (hb1.mono hb.size)⟩
    · obtain rfl : k = l.length := by omega
      rw [List.drop_length, firstB] at hfi
      have HF := Lib.hid hfi
      clear hfi
      go_wp2
      go_ret
      exact ⟨ret_int HF.out, hb⟩
set_option maxHeartbeats 1000000 in
theorem once_Effect (g : Eff → Int) (p : Nat) (A : Option Addr) (cc : Nat) (l : List Eff) (w : World) (hf : EffK w A cc l)
    (hcall : ∀ x ∈ l, ∀ (A : Option Addr) (c : Nat) W, Below w.heap.size w W → Calls Tryz.prog 222 #[agEf x A c, .pointer (some ⟨p, 0, none⟩)] W (VMk (.int .i64 (g x)) W)) :
    Calls Tryz.prog 221 #[.slice A l.length cc, .func (Fn.func 222) #[] #[.pointer (some ⟨p, 0, none⟩)]] w (VMk (.bool (onceF g l 0)) w) := by
  obtain ⟨h1, h2, h3, h4⟩ := hf
  unfold maxLen at h2
  have hlen : l.length ≤ 9223372036854775807 := by omega
  have HP := Lib.hid hcall
  have H4 := Lib.hid h4
  clear hcall h4 h1 h2 h3
  have hsf := fun (w : World) (a : Addr) (m : Mode) (b : Nat) => run_store Tryz.prog w a (.float .f64 b) m rfl
  go_enter Tryz.func221, Tryz.ntmps221
  go_wp2
  go_loopw [9] (fun i wr => ∃ k : Nat, k ≤ l.length ∧ i = .int .i64 k ∧ onceF g (l.drop k) k = onceF g l 0 ∧ Below w.heap.size w wr) (fun i _ => l.length - (intOf i).toNat)
  case atStart => exact ⟨0, Nat.zero_le _, rfl, rfl, Below.refl _ _⟩
  case round =>
    obtain ⟨k, hk, rfl, hfi, hb⟩ := hrel
    by_cases hlt : k < l.length
    · obtain ⟨ad, rfl, hbl, hpart⟩ := H4.out k hlt
      have hpart2 := hpart.below hb (by rw [block_add]; exact hbl)
      have hmem := List.getElem_mem hlt
      rw [List.drop_eq_getElem_cons hlt, onceF] at hfi
      generalize l[k] = x at *
      obtain ⟨A, c, h0, hk, hdeep⟩ := hpart2
      have q0 : wr.cell? (ad.add (k * 9)) = some (.string x.field) := h0
      have q1 : wr.cell? ⟨(ad.add (k * 9)).block, (ad.add (k * 9)).off + 1, none⟩ = some (.int .i64 x.e.op) := hk.1
      have q2 : wr.cell? ⟨(ad.add (k * 9)).block, (ad.add (k * 9)).off + 2, none⟩ = some (.slice A x.e.kids.length c) := hk.2.1
      have q3 : wr.cell? ⟨(ad.add (k * 9)).block, (ad.add (k * 9)).off + 3, none⟩ = some (.string x.e.name) := hk.2.2.1
      have q4 : wr.cell? ⟨(ad.add (k * 9)).block, (ad.add (k * 9)).off + 4, none⟩ = some (.int .i64 x.e.val.k) := hk.2.2.2.1
      have q5 : wr.cell? ⟨(ad.add (k * 9)).block, (ad.add (k * 9)).off + 5, none⟩ = some (.int .i64 x.e.val.i) := hk.2.2.2.2.1
      have q6 : wr.cell? ⟨(ad.add (k * 9)).block, (ad.add (k * 9)).off + 6, none⟩ = some (.bool x.e.val.b) := hk.2.2.2.2.2.1
      have q7 : wr.cell? ⟨(ad.add (k * 9)).block, (ad.add (k * 9)).off + 7, none⟩ = some (.string x.e.val.s) := hk.2.2.2.2.2.2.1
      have q8 : wr.cell? ⟨(ad.add (k * 9)).block, (ad.add (k * 9)).off + 8, none⟩ = some (.float .f64 x.e.val.n) := hk.2.2.2.2.2.2.2
      have hc := fun o => HP.out x hmem A c (wr.alloc o) (hb.trans ((alloc1 wr o).mono hb.size))
      clear hpart hmem
      have HC := Lib.hid hc
      rcases hd : (g x == (k : Int)) with _ | _
      all_goals
        rw [hd] at hfi
        have hne : (g x != (k : Int)) = !(g x == (k : Int)) := rfl
        rw [hd] at hne
        have HF := Lib.hid hfi
        clear hfi hd hc hdeep
        try simp only [Bool.not_true, Bool.not_false] at hne
        go_wp2_with (first | fail | (go_at_call 222; refine (HC.out _).mono ?_; rintro e w1 ⟨rfl, hb1⟩))
      · go_ret
        exact ⟨ret_bool (by have h := HF.out; simpa using h), (hb.trans ((alloc1 wr _).mono hb.size)).trans (hb1.mono (Nat.le_trans hb.size (alloc1 wr _).size))⟩
      · go_roundw
        case rel => exact ⟨k + 1, by omega, by go_num, by have h := HF.out; simpa using h, (hb.trans ((alloc1 wr _).mono hb.size)).trans (hb1.mono (Nat.le_trans hb.size (alloc1 wr _).size))⟩
        case measure => simp [intOf]; omega
    · obtain rfl : k = l.length := by omega
      rw [List.drop_length, onceF] at hfi
      have HF := Lib.hid hfi
      clear hfi
      go_wp2
      go_ret
      exact ⟨ret_bool HF.out, hb⟩
theorem eclo_Effect (pc : Nat) (p : Nat) (b : Bool) (x : Eff) (A : Option Addr) (c : Nat) (w : World) (h : w.cell? ⟨p, 0, none⟩ = some (.func (Fn.func 225) #[] #[.pointer (some ⟨pc, 0, none⟩)]))
    (hcall : ∀ W, Below w.heap.size w W → Calls Tryz.prog 225 #[agEf x A c, .pointer (some ⟨pc, 0, none⟩)] W (VMk (.bool b) W)) :
    Calls Tryz.prog 251 #[agEf x A c, .pointer (some ⟨p, 0, none⟩)] w (VMk (.bool (!b)) w) := by
  have hp : p < w.heap.size := World.block_lt_of_cell? w _ h
  have hne : ¬ w.heap.size = p := by omega
  have HC := Lib.hid hcall
  have hsf := fun (w : World) (a : Addr) (m : Mode) (b : Nat) => run_store Tryz.prog w a (.float .f64 b) m rfl
  clear hcall
  cases b
  all_goals
    go_enter Tryz.func251, Tryz.ntmps251
    go_wp2_with (go_at_call 225; refine (HC.out _ (alloc1 w _)).mono ?_; rintro e w1 ⟨rfl, hb1⟩)
    go_ret
    exact ⟨rfl, bel2 (alloc1 w _) hb1⟩
set_option maxHeartbeats 1000000 in
theorem idx_eEffect (P : Eff → Bool) (p : Nat) (A : Option Addr) (cc : Nat) (l : List Eff) (w : World) (hf : EffK w A cc l)
    (hcall : ∀ x ∈ l, ∀ (A : Option Addr) (c : Nat) W, Below w.heap.size w W → ExE W A c x.e → Calls Tryz.prog 251 #[agEf x A c, .pointer (some ⟨p, 0, none⟩)] W (VMk (.bool (P x)) W)) :
    Calls Tryz.prog 248 #[.slice A l.length cc, .func (Fn.func 251) #[] #[.pointer (some ⟨p, 0, none⟩)]] w (VMk (.int .i64 (firstB P l 0)) w) := by
  obtain ⟨h1, h2, h3, h4⟩ := hf
  unfold maxLen at h2
  have hlen : l.length ≤ 9223372036854775807 := by omega
  have HP := Lib.hid hcall
  have H4 := Lib.hid h4
  clear hcall h4 h1 h2 h3
  have hsf := fun (w : World) (a : Addr) (m : Mode) (b : Nat) => run_store Tryz.prog w a (.float .f64 b) m rfl
  go_enter Tryz.func248, Tryz.ntmps248
  go_wp2
  go_loopw [8] (fun i wr => ∃ k : Nat, k ≤ l.length ∧ i = .int .i64 k ∧ firstB P (l.drop k) k = firstB P l 0 ∧ Below w.heap.size w wr) (fun i _ => l.length - (intOf i).toNat)
  case atStart => exact ⟨0, Nat.zero_le _, rfl, rfl, Below.refl _ _⟩
  case round =>
    obtain ⟨k, hk, rfl, hfi, hb⟩ := hrel
    by_cases hlt : k < l.length
    · obtain ⟨ad, rfl, hbl, hpart⟩ := H4.out k hlt
      have hpart2 := hpart.below hb (by rw [block_add]; exact hbl)
      have hmem := List.getElem_mem hlt
      rw [List.drop_eq_getElem_cons hlt, firstB] at hfi
      generalize l[k] = x at *
      obtain ⟨A, c, h0, hk, hdeep⟩ := hpart2
      have q0 : wr.cell? (ad.add (k * 9)) = some (.string x.field) := h0
      have q1 : wr.cell? ⟨(ad.add (k * 9)).block, (ad.add (k * 9)).off + 1, none⟩ = some (.int .i64 x.e.op) := hk.1
      have q2 : wr.cell? ⟨(ad.add (k * 9)).block, (ad.add (k * 9)).off + 2, none⟩ = some (.slice A x.e.kids.length c) := hk.2.1
      have q3 : wr.cell? ⟨(ad.add (k * 9)).block, (ad.add (k * 9)).off + 3, none⟩ = some (.string x.e.name) := hk.2.2.1
      have q4 : wr.cell? ⟨(ad.add (k * 9)).block, (ad.add (k * 9)).off + 4, none⟩ = some (.int .i64 x.e.val.k) := hk.2.2.2.1
      have q5 : wr.cell? ⟨(ad.add (k * 9)).block, (ad.add (k * 9)).off + 5, none⟩ = some (.int .i64 x.e.val.i) := hk.2.2.2.2.1
      have q6 : wr.cell? ⟨(ad.add (k * 9)).block, (ad.add (k * 9)).off + 6, none⟩ = some (.bool x.e.val.b) := hk.2.2.2.2.2.1
      have q7 : wr.cell? ⟨(ad.add (k * 9)).block, (ad.add (k * 9)).off + 7, none⟩ = some (.string x.e.val.s) := hk.2.2.2.2.2.2.1
      have q8 : wr.cell? ⟨(ad.add (k * 9)).block, (ad.add (k * 9)).off + 8, none⟩ = some (.float .f64 x.e.val.n) := hk.2.2.2.2.2.2.2
      have hc := HP.out x hmem A c wr hb hdeep
      clear hpart hmem
      rcases hd : P x with _ | _
      all_goals
        rw [hd] at hc hfi
        have HC := Lib.hid hc
        have HF := Lib.hid hfi
        clear hc hfi hd hdeep
        go_wp2_with (go_at_call 251; refine HC.out.mono ?_; rintro e w1 ⟨rfl, hb1⟩)
      · go_roundw
        case rel => exact ⟨k + 1, by omega, by go_num, by have h := HF.out; rwa [if_neg (by decide)] at h, hb.trans (hb1.mono hb.size)⟩
        case measure => simp [intOf]; omega
      · go_ret
        exact ⟨ret_int (by have h := HF.out; simpa using h), hb.trans (hb1.mono hb.size)⟩
    · obtain rfl : k = l.length := by omega
      rw [List.drop_length, firstB] at hfi
      have HF := Lib.hid hfi
      clear hfi
      go_wp2
      go_ret
      exact ⟨ret_int HF.out, hb⟩
theorem cont_Effect (p : Nat) (A : Option Addr) (n cc : Nat) (r : Int) (w : World) (hi : Calls Tryz.prog 248 #[.slice A n cc, .func (Fn.func 251) #[] #[.pointer (some ⟨p, 0, none⟩)]] w (VMk (.int .i64 r) w)) :
    Calls Tryz.prog 250 #[.slice A n cc, .func (Fn.func 251) #[] #[.pointer (some ⟨p, 0, none⟩)]] w (VMk (.bool (decide (0 ≤ r))) w) := by
  have HI := Lib.hid hi
  clear hi
  by_cases h0 : 0 ≤ r
  · have hd : decide (0 ≤ r) = true := decide_eq_true h0
    rw [hd]
    clear hd
    go_enter Tryz.func250, Tryz.ntmps250
    go_wp2_with (go_at_call 248; refine HI.out.mono ?_; rintro e w1 ⟨rfl, hb1⟩)
    go_ret
    exact ⟨ret_bool (by first | (simp; done) | (simp; omega)), hb1⟩
  · have hd : decide (0 ≤ r) = false := decide_eq_false h0
    rw [hd]
    clear hd
    go_enter Tryz.func250, Tryz.ntmps250
    go_wp2_with (go_at_call 248; refine HI.out.mono ?_; rintro e w1 ⟨rfl, hb1⟩)
    go_ret
    exact ⟨ret_bool (by first | (simp; done) | (simp; omega)), hb1⟩
set_option maxHeartbeats 1000000 in
theorem each_Effect (pc : Nat) (P : Eff → Bool) (A : Option Addr) (cc : Nat) (l : List Eff) (w : World) (hf : EffK w A cc l)
    (hcall : ∀ x ∈ l, ∀ (A : Option Addr) (c : Nat) W, Below w.heap.size w W → ExE W A c x.e → Calls Tryz.prog 225 #[agEf x A c, .pointer (some ⟨pc, 0, none⟩)] W (VMk (.bool (P x)) W)) :
    Calls Tryz.prog 224 #[.slice A l.length cc, .func (Fn.func 225) #[] #[.pointer (some ⟨pc, 0, none⟩)]] w (VMk (.bool (l.all P)) w) := by
  have hcell : (w.alloc (.cells #[.func (Fn.func 225) #[] #[.pointer (some ⟨pc, 0, none⟩)]] 241)).cell? ⟨w.heap.size, 0, none⟩ = some (.func (Fn.func 225) #[] #[.pointer (some ⟨pc, 0, none⟩)]) := (cell_of_row _ _ 0 _ _ (0, 0) (heap_alloc_new w _)).trans rfl
  have hb0 := alloc1 w (.cells #[.func (Fn.func 225) #[] #[.pointer (some ⟨pc, 0, none⟩)]] 241)
  have hi := idx_eEffect (fun x => !P x) w.heap.size A cc l _ (EffK.below hf hb0) (fun x hx A c W hW hdeep => eclo_Effect pc w.heap.size (P x) x A c W (keepc hW (World.block_lt_of_cell? _ _ hcell) hcell) (fun W2 hW2 => hcall x hx A c W2 (bel2 (bel2 hb0 hW) hW2) (hdeep.below hW2)))
  have hi := cont_Effect _ _ _ _ _ _ hi
  rw [first_all P l 0] at hi
  generalize l.all P = b at *
  have HI := Lib.hid hi
  have HB := Lib.hid hb0
  clear hi hb0 hcell hcall hf
  have hsf := fun (w : World) (a : Addr) (m : Mode) (b : Nat) => run_store Tryz.prog w a (.float .f64 b) m rfl
  cases b
  all_goals
    go_enter Tryz.func224, Tryz.ntmps224
    go_wp2_with (go_at_call 250; refine HI.out.mono ?_; rintro e w1 ⟨rfl, hb1⟩)
    go_ret
    exact ⟨rfl, bel2 HB.out hb1⟩

theorem among_any (n a b : Int) (w : World) : Calls Tryz.prog 116 #[.int .i64 n, .int .i64 a, .int .i64 b] w (VGv (.bool (decide (a ≤ n) && decide (n ≤ b))) w) := by
  by_cases h1 : a ≤ n
  · by_cases h2 : n ≤ b
    · have e : (decide (a ≤ n) && decide (n ≤ b)) = true := by simp [h1, h2]
      rw [e]; clear e
      go_enter Tryz.func116, Tryz.ntmps116
      go_wp2
      go_ret
      exact ⟨ret_bool (by simp [h2]), rfl⟩
    · have e : (decide (a ≤ n) && decide (n ≤ b)) = false := by simp [h2]
      rw [e]; clear e
      go_enter Tryz.func116, Tryz.ntmps116
      go_wp2
      go_ret
      exact ⟨ret_bool (by first | (simp; done) | (simp; omega)), rfl⟩
  · have e : (decide (a ≤ n) && decide (n ≤ b)) = false := by simp [h1]
    rw [e]; clear e
    go_enter Tryz.func116, Tryz.ntmps116
    go_wp2
    go_ret
    exact ⟨rfl, rfl⟩
theorem isName_any (s : ByteArray) (w : World) : Calls Tryz.prog 63 #[.string s] w (VGv (.bool (nameB s)) w) := by
  have HA := Lib.hid (fun W => among_any (s.size : Int) 1 16 W)
  have hn : nameB s = (decide (1 ≤ (s.size : Int)) && decide ((s.size : Int) ≤ 16)) := rfl
  rw [hn]
  clear hn
  generalize (decide (1 ≤ (s.size : Int)) && decide ((s.size : Int) ≤ 16)) = b at *
  go_enter Tryz.func63, Tryz.ntmps63
  go_wp2_with (go_at_call 116; refine (HA.out _).mono ?_; rintro e w' ⟨rfl, rfl⟩)
  go_ret
  exact ⟨rfl, rfl⟩
theorem Is.open {w : World} {A : Option Addr} {n c : Nat} {l : List Int} (h : Is w (.slice A n c) l) : n = l.length ∧ l.length ≤ maxLen ∧ ∀ k (hk : k < l.length), ∃ ad, A = some ad ∧ ad.block < w.heap.size ∧ w.cell? (ad.add k) = some (.int .i64 l[k]) := by
  obtain ⟨A', c', hv, hc, hm, -, hx⟩ := h
  injection hv with e1 e2 e3
  subst e1 e2 e3
  simp only [List.length_map] at hc ⊢
  refine ⟨by first | rfl | simp, by first | omega | exact Nat.le_trans hc hm | exact Nat.le_of_lt (Nat.lt_of_le_of_lt hc hm), fun k hk => ?_⟩
  obtain ⟨ad, ha, hl, hr⟩ := hx (by intro e; have h0 := congrArg List.length e; simp at h0; subst h0; simp at hk)
  exact ⟨ad, ha, hl, hr k _ (by first | (simp [hk]; done) | exact (List.getElem?_map ..).trans (by simp [hk]))⟩
set_option maxHeartbeats 1000000 in
theorem rightOrgs_any (A : Option Addr) (c : Nat) (l : List Int) (w : World) (h : Is w (.slice A l.length c) l) : Calls Tryz.prog 177 #[.slice A l.length c] w (VGv (.bool (orgsR (-1) l)) w) := by
  obtain ⟨-, hm, hx⟩ := h.open
  unfold maxLen at hm
  have HX := Lib.hid hx
  clear h hx
  go_enter Tryz.func177, Tryz.ntmps177
  go_wp2
  go_loopw [3, 8] (fun a i wr => ∃ k : Nat, ∃ z : Int, k ≤ l.length ∧ i = .int .i64 k ∧ a = .int .i64 z ∧ -1 ≤ z ∧ z ≤ 3 ∧ orgsR z (l.drop k) = orgsR (-1) l ∧ wr = w) (fun _ i _ => l.length - (intOf i).toNat)
  case atStart => exact ⟨0, -1, Nat.zero_le _, rfl, rfl, by omega, by omega, rfl, rfl⟩
  case round =>
    obtain ⟨k, z, hk, rfl, rfl, hz1, hz2, hfi, rfl⟩ := hrel
    by_cases hlt : k < l.length
    · obtain ⟨ad, rfl, hbl, hq⟩ := HX.out k hlt
      rw [List.drop_eq_getElem_cons hlt, orgsR] at hfi
      generalize l[k] = x at *
      have HC := Lib.hid (fun W => among_any x (z + 1) 3 W)
      have hw : IntKind.i64.wrap (z + 1) = z + 1 := by rw [IntKind.wrap_i64]; omega
      rcases hd : (decide (z + 1 ≤ x) && decide (x ≤ 3)) with _ | _
      all_goals
        rw [hd] at hfi HC
        have HD := Lib.hid hd
        have HF := Lib.hid hfi
        clear hfi hd
        go_wp2_with (first | fail | (go_at_call 116; refine (HC.out _).mono ?_; rintro e w1 ⟨rfl, rfl⟩))
      · go_ret
        exact ⟨ret_bool (by have h := HF.out; simpa using h), rfl⟩
      · go_roundw
        case rel => exact ⟨k + 1, x, by omega, by go_num, rfl, by have h := HD.out; simp at h; omega, by have h := HD.out; simp at h; omega, by have h := HF.out; simpa using h, by trivial⟩
        case measure => simp [intOf]; omega
    · obtain rfl : k = l.length := by omega
      rw [List.drop_length, orgsR] at hfi
      have HF := Lib.hid hfi
      clear hfi
      go_wp2
      go_ret
      exact ⟨ret_bool HF.out, rfl⟩
set_option maxHeartbeats 1000000 in
theorem rightStage_any (x : Stg) (A : Option Addr) (c : Nat) (w : World) (h : Is w (.slice A x.orgs.length c) x.orgs) : Calls Tryz.prog 125 #[agSt x A c] w (VMk (.bool (stageR x)) w) := by
  have hl := h.open.2.1
  unfold maxLen at hl
  have HO := Lib.hid (fun W (hb : Below w.heap.size w W) => rightOrgs_any A c x.orgs W (Rd.below h hb (Nat.le_refl _)))
  have HN := Lib.hid (fun W => isName_any x.name W)
  have HA := Lib.hid (fun W => among_any x.need 0 (x.orgs.length : Int) W)
  unfold stageR
  clear h
  generalize nameB x.name = b1 at *
  generalize orgsR (-1) x.orgs = b2 at *
  generalize (decide (0 ≤ x.need) && decide (x.need ≤ (x.orgs.length : Int))) = b3 at *
  go_enter Tryz.func125, Tryz.ntmps125
  have HO2 := Lib.hid (fun o => HO.out (w.alloc o) (alloc1 w o))
  rcases b1 with _ | _ <;> rcases b2 with _ | _
  all_goals
    go_wp2_with (first | fail | (go_at_call 63; refine (HN.out _).mono ?_; rintro e w1 ⟨rfl, rfl⟩) | (go_at_call 177; refine (HO2.out _).mono ?_; rintro e w1 ⟨rfl, rfl⟩) | (go_at_call 116; refine (HA.out _).mono ?_; rintro e w1 ⟨rfl, rfl⟩))
    go_ret
    exact ⟨ret_bool (by simp), alloc1 w _⟩

theorem onceF_iff {α : Type} (g : α → Int) : ∀ (l : List α) (i : Nat), onceF g l i = true ↔ ∀ (k : Nat) (hk : k < l.length), g l[k] = ((i + k : Nat) : Int)
  | [], i => by simp [onceF]
  | x :: l, i => by
    rw [onceF, Bool.and_eq_true, beq_iff_eq, onceF_iff g l (i + 1)]
    constructor
    · rintro ⟨h1, h2⟩ k hk
      cases k with
      | zero => simpa using h1
      | succ k =>
        have := h2 k (by simpa using hk)
        rw [List.getElem_cons_succ, this]
        omega
    · intro h
      refine ⟨(h 0 (by simp)).trans (by simp), fun k hk => ?_⟩
      have := h (k + 1) (by simpa using hk)
      rw [List.getElem_cons_succ] at this
      rw [this]
      omega
theorem onceN_of {α : Type} (nm : α → ByteArray) (l : List α) : onceN (l.map nm) = onceF (fun x => placeN (nm x) (l.map nm) 0) l 0 := by
  rw [Bool.eq_iff_iff, onceN_iff, onceF_iff]
  constructor
  · intro h k hk
    have := h k (by simpa using hk)
    simpa using this
  · intro h k hk
    have := h k (by simpa using hk)
    simpa using this
set_option maxHeartbeats 1000000 in
theorem rightStages_any (ct : Ctr) (FA : Option Addr) (fc : Nat) (SA : Option Addr) (sc : Nat) (MA : Option Addr) (mc : Nat) (w : World) (h : CtK w ct FA fc SA sc MA mc) :
    Calls Tryz.prog 65 #[agC ct.name FA ct.fs.length fc SA ct.ss.length sc MA ct.ms.length mc] w (VMk (.bool (stagesR ct)) w) := by
  have hm := h.s.2.1
  unfold maxLen at hm
  have hb0 := alloc1 w (.cells #[.string ct.name, .slice FA ct.fs.length fc, .slice SA ct.ss.length sc, .slice MA ct.ms.length mc] 33)
  have hc := fun i => cell_of_row (w.alloc (.cells #[.string ct.name, .slice FA ct.fs.length fc, .slice SA ct.ss.length sc, .slice MA ct.ms.length mc] 33)) w.heap.size i _ 33 (0, 0) (heap_alloc_new w _)
  have c0 := (hc 0).trans rfl
  have c1 := (hc 1).trans rfl
  have c2 : (w.alloc (.cells #[.string ct.name, .slice FA ct.fs.length fc, .slice SA ct.ss.length sc, .slice MA ct.ms.length mc] 33)).cell? ⟨w.heap.size, 2, none⟩ = some (.slice SA ct.ss.length sc) := (hc 2).trans rfl
  have c3 := (hc 3).trans rfl
  have hlt := World.block_lt_of_cell? _ _ c0
  have ho := once_Stage (fun x => placeN x.name (ct.ss.map Stg.name) 0) w.heap.size SA sc ct.ss _ (h.s.below hb0) (fun x hx A c W hW => clo1_Stage w.heap.size ct FA fc SA sc MA mc x A c W (keepc hW hlt c0) (keepc hW hlt c1) (keepc hW hlt c2) (keepc hW hlt c3) (h.below (bel2 hb0 hW)))
  have he := fun W hW => each_Stage stageR SA sc ct.ss W (h.s.below (bel2 hb0 hW)) (fun x hx A c W2 hW2 hI => rightStage_any x A c W2 hI)
  have HA := Lib.hid (fun W => among_any (ct.ss.length : Int) 1 6 W)
  have HO := Lib.hid ho
  have HE := Lib.hid he
  have HQ := Lib.hid (fun (w1 : World) (hb1 : Below (w.alloc (.cells #[.string ct.name, .slice FA ct.fs.length fc, .slice SA ct.ss.length sc, .slice MA ct.ms.length mc] 33)).heap.size (w.alloc (.cells #[.string ct.name, .slice FA ct.fs.length fc, .slice SA ct.ss.length sc, .slice MA ct.ms.length mc] 33)) w1) => keepc hb1 hlt c2)
  unfold stagesR
  rw [onceN_of]
  clear h ho he hc c0 c1 c2 c3 hb0 hlt
  generalize onceF (fun x => placeN x.name (ct.ss.map Stg.name) 0) ct.ss 0 = b2 at *
  generalize (decide (1 ≤ (ct.ss.length : Int)) && decide ((ct.ss.length : Int) ≤ 6)) = b1 at *
  generalize ct.ss.all stageR = b3 at *
  go_enter Tryz.func65, Tryz.ntmps65
  rcases b1 with _ | _ <;> rcases b2 with _ | _
  all_goals
    go_wp2_with (first | fail | (go_at_call 116; refine (HA.out _).mono ?_; rintro e w1 ⟨rfl, rfl⟩) | (go_at_call 122; refine HO.out.mono ?_; rintro e w1 ⟨rfl, hb1⟩; have hq := HQ.out _ hb1) | (go_at_call 124; refine (HE.out _ hb1).mono ?_; rintro e w2 ⟨rfl, hb2⟩))
    go_ret
    first | exact ⟨ret_bool (by simp), alloc1 w _⟩ | exact ⟨ret_bool (by simp), bel2 (alloc1 w _) hb1⟩ | exact ⟨ret_bool (by simp), bel2 (bel2 (alloc1 w _) hb1) hb2⟩

theorem cIndex_any (A : Option Addr) (c : Nat) (l : List ByteArray) (s : ByteArray) (w : World) (hv : Ss w (.slice A l.length c) l) : Calls Tryz.prog 217 #[.slice A l.length c, .string s] w (VGv (.int .i64 (placeN s l 0)) w) := by
  obtain ⟨A', c', he, hm, hx⟩ := hv.open
  injection he with e1 e2 e3
  subst e1 e3
  unfold maxLen at hm
  have HX := Lib.hid hx
  clear hx hv e2
  go_enter Tryz.func217, Tryz.ntmps217
  go_wp2
  go_loop [8] (fun i => ∃ k : Nat, k ≤ l.length ∧ i = .int .i64 k ∧ placeN s (l.drop k) k = placeN s l 0) (fun i => l.length - (intOf i).toNat)
  case atStart => exact ⟨0, Nat.zero_le _, rfl, rfl⟩
  case round =>
    obtain ⟨k, hk, rfl, hfi⟩ := hrel
    by_cases hlt : k < l.length
    · obtain ⟨ad, rfl, hbl, hcell⟩ := HX.out k hlt
      rw [List.drop_eq_getElem_cons hlt, placeN] at hfi
      generalize l[k] = x at *
      rcases heq : (s.toList == x.toList) with _ | _
      · rw [if_neg (by rw [BEq.comm, heq]; decide)] at hfi
        have HF := Lib.hid hfi
        clear hfi
        go_wp2
        go_round
        case rel => exact ⟨k + 1, by omega, by go_num, HF.out⟩
        case measure => simp [intOf]; omega
      · rw [if_pos (by rw [BEq.comm, heq])] at hfi
        have HF := Lib.hid hfi
        clear hfi
        go_wp2
        go_ret
        exact ⟨by rw [← HF.out]; rfl, rfl⟩
    · obtain rfl : k = l.length := by omega
      rw [List.drop_length, placeN] at hfi
      have HF := Lib.hid hfi
      clear hfi HX
      go_wp2
      go_ret
      exact ⟨by rw [← HF.out]; rfl, rfl⟩
set_option maxHeartbeats 1000000 in
theorem once_Str (g : ByteArray → Int) (p : Nat) (A : Option Addr) (cc : Nat) (l : List ByteArray) (w : World) (hf : Ss w (.slice A l.length cc) l)
    (hcall : ∀ x ∈ l, ∀ W, Below w.heap.size w W → Calls Tryz.prog 216 #[.string x, .pointer (some ⟨p, 0, none⟩)] W (VMk (.int .i64 (g x)) W)) :
    Calls Tryz.prog 215 #[.slice A l.length cc, .func (Fn.func 216) #[] #[.pointer (some ⟨p, 0, none⟩)]] w (VMk (.bool (onceF g l 0)) w) := by
  obtain ⟨A', c', he, hm, hx⟩ := hf.open
  injection he with e1 e2 e3
  subst e1 e3
  unfold maxLen at hm
  have HP := Lib.hid hcall
  have HX := Lib.hid hx
  clear hcall hx hf e2
  go_enter Tryz.func215, Tryz.ntmps215
  go_wp2
  go_loopw [9] (fun i wr => ∃ k : Nat, k ≤ l.length ∧ i = .int .i64 k ∧ onceF g (l.drop k) k = onceF g l 0 ∧ Below w.heap.size w wr) (fun i _ => l.length - (intOf i).toNat)
  case atStart => exact ⟨0, Nat.zero_le _, rfl, rfl, Below.refl _ _⟩
  case round =>
    obtain ⟨k, hk, rfl, hfi, hb⟩ := hrel
    by_cases hlt : k < l.length
    · obtain ⟨ad, rfl, hbl, hcell⟩ := HX.out k hlt
      have hcell2 := (hb.cell (p := ad.add k) (by rw [block_add]; exact hbl)).trans hcell
      have hmem := List.getElem_mem hlt
      rw [List.drop_eq_getElem_cons hlt, onceF] at hfi
      generalize l[k] = x at *
      have HC := Lib.hid (HP.out x hmem wr hb)
      clear hmem hcell
      rcases hd : (g x == (k : Int)) with _ | _
      all_goals
        rw [hd] at hfi
        have hne : (g x != (k : Int)) = !(g x == (k : Int)) := rfl
        rw [hd] at hne
        have HF := Lib.hid hfi
        clear hfi hd
        try simp only [Bool.not_true, Bool.not_false] at hne
        go_wp2_with (first | fail | (go_at_call 216; refine HC.out.mono ?_; rintro e w1 ⟨rfl, hb1⟩))
      · go_ret
        exact ⟨ret_bool (by have h := HF.out; simpa using h), hb.trans (hb1.mono hb.size)⟩
      · go_roundw
        case rel => exact ⟨k + 1, by omega, by go_num, by have h := HF.out; simpa using h, hb.trans (hb1.mono hb.size)⟩
        case measure => simp [intOf]; omega
    · obtain rfl : k = l.length := by omega
      rw [List.drop_length, onceF] at hfi
      have HF := Lib.hid hfi
      clear hfi
      go_wp2
      go_ret
      exact ⟨ret_bool HF.out, hb⟩

theorem short_Str (x : ByteArray) (w : World) : Calls Tryz.prog 219 #[.string x] w (VMk (.bool (decide ((x.size : Int) ≤ 32))) w) := by
  go_enter Tryz.func219, Tryz.ntmps219
  go_wp2
  go_ret
  exact ⟨rfl, Below.refl _ _⟩
set_option maxHeartbeats 1000000 in
theorem eclo_Str (p : Nat) (b : Bool) (x : ByteArray) (w : World) (h : w.cell? ⟨p, 0, none⟩ = some (.func (Fn.func 219) #[] #[]))
    (hcall : ∀ W, Below w.heap.size w W → Calls Tryz.prog 219 #[.string x] W (VMk (.bool b) W)) :
    Calls Tryz.prog 246 #[.string x, .pointer (some ⟨p, 0, none⟩)] w (VMk (.bool (!b)) w) := by
  have hp : p < w.heap.size := World.block_lt_of_cell? w _ h
  have hne : ¬ w.heap.size = p := by omega
  have HC := Lib.hid hcall
  clear hcall
  cases b
  all_goals
    go_enter Tryz.func246, Tryz.ntmps246
    go_wp2_with (go_at_call 219; refine (HC.out _ (Below.refl _ _)).mono ?_; rintro e w1 ⟨rfl, hb1⟩)
    go_ret
    exact ⟨rfl, hb1⟩
set_option maxHeartbeats 1000000 in
theorem idx_eStr (P : ByteArray → Bool) (p : Nat) (A : Option Addr) (cc : Nat) (l : List ByteArray) (w : World) (hf : Ss w (.slice A l.length cc) l)
    (hcall : ∀ x ∈ l, ∀ W, Below w.heap.size w W → Calls Tryz.prog 246 #[.string x, .pointer (some ⟨p, 0, none⟩)] W (VMk (.bool (P x)) W)) :
    Calls Tryz.prog 260 #[.slice A l.length cc, .func (Fn.func 246) #[] #[.pointer (some ⟨p, 0, none⟩)]] w (VMk (.int .i64 (firstB P l 0)) w) := by
  obtain ⟨A', c', he, hm, hx⟩ := hf.open
  injection he with e1 e2 e3
  subst e1 e3
  unfold maxLen at hm
  have HP := Lib.hid hcall
  have H4 := Lib.hid hx
  clear hcall hx hf e2
  go_enter Tryz.func260, Tryz.ntmps260
  go_wp2
  go_loopw [8] (fun i wr => ∃ k : Nat, k ≤ l.length ∧ i = .int .i64 k ∧ firstB P (l.drop k) k = firstB P l 0 ∧ Below w.heap.size w wr) (fun i _ => l.length - (intOf i).toNat)
  case atStart => exact ⟨0, Nat.zero_le _, rfl, rfl, Below.refl _ _⟩
  case round =>
    obtain ⟨k, hk, rfl, hfi, hb⟩ := hrel
    by_cases hlt : k < l.length
    · obtain ⟨ad, rfl, hbl, hpart⟩ := H4.out k hlt
      have hcell2 := (hb.cell (p := ad.add k) (by rw [block_add]; exact hbl)).trans hpart
      have hmem := List.getElem_mem hlt
      rw [List.drop_eq_getElem_cons hlt, firstB] at hfi
      generalize l[k] = x at *
      have hc := HP.out x hmem wr hb
      clear hpart hmem
      rcases hd : P x with _ | _
      all_goals
        rw [hd] at hc hfi
        have HC := Lib.hid hc
        have HF := Lib.hid hfi
        clear hc hfi hd
        go_wp2_with (go_at_call 246; refine HC.out.mono ?_; rintro e w1 ⟨rfl, hb1⟩)
      · go_roundw
        case rel => exact ⟨k + 1, by omega, by go_num, by have h := HF.out; rwa [if_neg (by decide)] at h, hb.trans (hb1.mono hb.size)⟩
        case measure => simp [intOf]; omega
      · go_ret
        exact ⟨ret_int (by have h := HF.out; simpa using h), hb.trans (hb1.mono hb.size)⟩
    · obtain rfl : k = l.length := by omega
      rw [List.drop_length, firstB] at hfi
      have HF := Lib.hid hfi
      clear hfi
      go_wp2
      go_ret
      exact ⟨ret_int HF.out, hb⟩
theorem cont_Str (p : Nat) (A : Option Addr) (n cc : Nat) (r : Int) (w : World) (hi : Calls Tryz.prog 260 #[.slice A n cc, .func (Fn.func 246) #[] #[.pointer (some ⟨p, 0, none⟩)]] w (VMk (.int .i64 r) w)) :
    Calls Tryz.prog 245 #[.slice A n cc, .func (Fn.func 246) #[] #[.pointer (some ⟨p, 0, none⟩)]] w (VMk (.bool (decide (0 ≤ r))) w) := by
  have HI := Lib.hid hi
  clear hi
  by_cases h0 : 0 ≤ r
  · have hd : decide (0 ≤ r) = true := decide_eq_true h0
    rw [hd]
    clear hd
    go_enter Tryz.func245, Tryz.ntmps245
    go_wp2_with (go_at_call 260; refine HI.out.mono ?_; rintro e w1 ⟨rfl, hb1⟩)
    go_ret
    exact ⟨ret_bool (by first | (simp; done) | (simp; omega)), hb1⟩
  · have hd : decide (0 ≤ r) = false := decide_eq_false h0
    rw [hd]
    clear hd
    go_enter Tryz.func245, Tryz.ntmps245
    go_wp2_with (go_at_call 260; refine HI.out.mono ?_; rintro e w1 ⟨rfl, hb1⟩)
    go_ret
    exact ⟨ret_bool (by first | (simp; done) | (simp; omega)), hb1⟩
set_option maxHeartbeats 1000000 in
theorem each_Str (P : ByteArray → Bool) (A : Option Addr) (cc : Nat) (l : List ByteArray) (w : World) (hf : Ss w (.slice A l.length cc) l)
    (hcall : ∀ x ∈ l, ∀ W, Below w.heap.size w W → Calls Tryz.prog 219 #[.string x] W (VMk (.bool (P x)) W)) :
    Calls Tryz.prog 218 #[.slice A l.length cc, .func (Fn.func 219) #[] #[]] w (VMk (.bool (l.all P)) w) := by
  have hcell : (w.alloc (.cells #[.func (Fn.func 219) #[] #[]] 86)).cell? ⟨w.heap.size, 0, none⟩ = some (.func (Fn.func 219) #[] #[]) := (cell_of_row _ _ 0 _ _ (0, 0) (heap_alloc_new w _)).trans rfl
  have hb0 := alloc1 w (.cells #[.func (Fn.func 219) #[] #[]] 86)
  have hi := idx_eStr (fun x => !P x) w.heap.size A cc l _ (Ss.below hf hb0 (Nat.le_refl _)) (fun x hx W hW => eclo_Str w.heap.size (P x) x W (keepc hW (World.block_lt_of_cell? _ _ hcell) hcell) (fun W2 hW2 => hcall x hx W2 (bel2 (bel2 hb0 hW) hW2)))
  have hi := cont_Str _ _ _ _ _ _ hi
  rw [first_all P l 0] at hi
  generalize l.all P = b at *
  have HI := Lib.hid hi
  have HB := Lib.hid hb0
  clear hi hb0 hcell hcall hf
  cases b
  all_goals
    go_enter Tryz.func218, Tryz.ntmps218
    go_wp2_with (go_at_call 245; refine HI.out.mono ?_; rintro e w1 ⟨rfl, hb1⟩)
    go_ret
    exact ⟨rfl, bel2 HB.out hb1⟩

theorem clo_enum (p : Nat) (A : Option Addr) (c : Nat) (l : List ByteArray) (s : ByteArray) (w : World) (h2 : w.cell? ⟨p, 2, none⟩ = some (.slice A l.length c)) (hs : Ss w (.slice A l.length c) l) :
    Calls Tryz.prog 216 #[.string s, .pointer (some ⟨p, 0, none⟩)] w (VMk (.int .i64 (placeN s l 0)) w) := by
  have HI := Lib.hid (cIndex_any A c l s w hs)
  clear hs
  generalize placeN s l 0 = r at *
  go_enter Tryz.func216, Tryz.ntmps216
  go_wp2_with (go_at_call 217; refine HI.out.mono ?_; rintro e w1 ⟨rfl, rfl⟩)
  go_ret
  exact ⟨rfl, Below.refl _ _⟩
set_option maxHeartbeats 1000000 in
theorem rightEnum_any (x : Fld) (A : Option Addr) (c : Nat) (w : World) (h : Ss w (.slice A x.en.length c) x.en) : Calls Tryz.prog 174 #[agFl x A c] w (VMk (.bool (enumR x)) w) := by
  have hm : x.en.length ≤ maxLen := by
    obtain ⟨A', c', he, hm, -⟩ := h.open
    exact hm
  unfold maxLen at hm
  have hb0 := alloc1 w (.cells #[.string x.f.name, .int .i64 x.f.kind, .slice A x.en.length c, .int .i64 x.y.k, .int .i64 x.y.i, .bool x.y.b, .string x.y.s, .float .f64 x.y.n] 83)
  have c2 : (w.alloc (.cells #[.string x.f.name, .int .i64 x.f.kind, .slice A x.en.length c, .int .i64 x.y.k, .int .i64 x.y.i, .bool x.y.b, .string x.y.s, .float .f64 x.y.n] 83)).cell? ⟨w.heap.size, 2, none⟩ = some (.slice A x.en.length c) := (cell_of_row _ _ 2 _ _ (0, 0) (heap_alloc_new w _)).trans rfl
  have hlt := World.block_lt_of_cell? _ _ c2
  have ho := once_Str (fun s => placeN s x.en 0) w.heap.size A c x.en _ (h.below hb0 (Nat.le_refl _)) (fun s hs W hW => clo_enum w.heap.size A c x.en s W (keepc hW hlt c2) (h.below (bel2 hb0 hW) (Nat.le_refl _)))
  have he := fun W hW => each_Str (fun s => decide ((s.size : Int) ≤ 32)) A c x.en W (h.below (bel2 hb0 hW) (Nat.le_refl _)) (fun s hs W2 hW2 => short_Str s W2)
  have HO := Lib.hid ho
  have HE := Lib.hid he
  have HQ := Lib.hid (fun (w1 : World) (hb1 : Below (w.alloc (.cells #[.string x.f.name, .int .i64 x.f.kind, .slice A x.en.length c, .int .i64 x.y.k, .int .i64 x.y.i, .bool x.y.b, .string x.y.s, .float .f64 x.y.n] 83)).heap.size (w.alloc (.cells #[.string x.f.name, .int .i64 x.f.kind, .slice A x.en.length c, .int .i64 x.y.k, .int .i64 x.y.i, .bool x.y.b, .string x.y.s, .float .f64 x.y.n] 83)) w1) => (show w1.cell? ⟨w.heap.size, 2, none⟩ = some (.slice A x.en.length c) from keepc hb1 hlt c2))
  have hon : onceN x.en = onceF (fun s => placeN s x.en 0) x.en 0 := by
    have h := onceN_of (fun s : ByteArray => s) x.en
    rwa [List.map_id'] at h
  unfold enumR
  rw [hon]
  clear h ho he c2 hb0 hlt hon
  generalize onceF (fun s => placeN s x.en 0) x.en 0 = b2 at *
  generalize x.en.all (fun s => decide ((s.size : Int) ≤ 32)) = b3 at *
  have hemp : x.en.isEmpty = ((x.en.length : Int) == 0) := by cases x.en <;> simp <;> omega
  rw [hemp]
  clear hemp
  have hsf := fun (w : World) (a : Addr) (m : Mode) (b : Nat) => run_store Tryz.prog w a (.float .f64 b) m rfl
  go_enter Tryz.func174, Tryz.ntmps174
  by_cases h0 : x.en.length = 0
  · rw [h0]
    have h0i : ((x.en.length : Int) == 0) = true := by rw [h0]; rfl
    go_wp2
    go_ret
    exact ⟨ret_bool (by simp), alloc1 w _⟩
  · have hz : ((x.en.length : Int) == 0) = false := beq_eq_false_iff_ne.2 (by omega)
    rw [hz]
    by_cases h3 : x.f.kind = 3
    · have hk : (x.f.kind == 3) = true := beq_iff_eq.2 h3
      rw [hk]
      clear h3
      by_cases h4 : (x.en.length : Int) ≤ 4
      · have hd : decide ((x.en.length : Int) ≤ 4) = true := decide_eq_true h4
        rw [hd]
        rcases b2 with _ | _
        all_goals
          go_wp2_with (first | fail | (go_at_call 215; refine HO.out.mono ?_; rintro e w1 ⟨rfl, hb1⟩; have hq := HQ.out _ hb1) | (go_at_call 218; refine (HE.out _ hb1).mono ?_; rintro e w2 ⟨rfl, hb2⟩))
          go_ret
          first | exact ⟨ret_bool (by simp), bel2 (alloc1 w _) hb1⟩ | exact ⟨ret_bool (by simp), bel2 (bel2 (alloc1 w _) hb1) hb2⟩
      · have hd : decide ((x.en.length : Int) ≤ 4) = false := decide_eq_false h4
        rw [hd]
        go_wp2
        go_ret
        exact ⟨ret_bool (by first | (simp; done) | (simp; omega)), alloc1 w _⟩
    · have hk : (x.f.kind == 3) = false := beq_eq_false_iff_ne.2 h3
      rw [hk]
      go_wp2
      go_ret
      exact ⟨ret_bool (by first | (simp; done) | (simp; omega)), alloc1 w _⟩

abbrev bxC (nm : ByteArray) (FA : Option Addr) (fn fc : Nat) (SA : Option Addr) (sn sc : Nat) (MA : Option Addr) (mn mc : Nat) : Obj := .cells #[.string nm, .slice FA fn fc, .slice SA sn sc, .slice MA mn mc] 33
def BxC (w : World) (b : Nat) (nm : ByteArray) (FA : Option Addr) (fn fc : Nat) (SA : Option Addr) (sn sc : Nat) (MA : Option Addr) (mn mc : Nat) : Prop :=
  w.cell? ⟨b, 0, none⟩ = some (.string nm) ∧ w.cell? ⟨b, 1, none⟩ = some (.slice FA fn fc) ∧ w.cell? ⟨b, 2, none⟩ = some (.slice SA sn sc) ∧ w.cell? ⟨b, 3, none⟩ = some (.slice MA mn mc)
theorem BxC.lt {w : World} {b : Nat} {nm : ByteArray} {FA : Option Addr} {fn fc : Nat} {SA : Option Addr} {sn sc : Nat} {MA : Option Addr} {mn mc : Nat} (h : BxC w b nm FA fn fc SA sn sc MA mn mc) : b < w.heap.size := World.block_lt_of_cell? _ _ h.1
theorem BxC.below {w w' : World} {b : Nat} {nm : ByteArray} {FA : Option Addr} {fn fc : Nat} {SA : Option Addr} {sn sc : Nat} {MA : Option Addr} {mn mc : Nat} (h : BxC w b nm FA fn fc SA sn sc MA mn mc) (hb : Below w.heap.size w w') : BxC w' b nm FA fn fc SA sn sc MA mn mc :=
  ⟨keepc hb h.lt h.1, keepc hb h.lt h.2.1, keepc hb h.lt h.2.2.1, keepc hb h.lt h.2.2.2⟩
theorem BxC.new (w : World) (nm : ByteArray) (FA : Option Addr) (fn fc : Nat) (SA : Option Addr) (sn sc : Nat) (MA : Option Addr) (mn mc : Nat) : BxC (w.alloc (bxC nm FA fn fc SA sn sc MA mn mc)) w.heap.size nm FA fn fc SA sn sc MA mn mc := by
  have h := heap_alloc_new w (bxC nm FA fn fc SA sn sc MA mn mc)
  exact ⟨(cell_of_row _ _ 0 _ _ (0, 0) h).trans rfl, (cell_of_row _ _ 1 _ _ (0, 0) h).trans rfl, (cell_of_row _ _ 2 _ _ (0, 0) h).trans rfl, (cell_of_row _ _ 3 _ _ (0, 0) h).trans rfl⟩
abbrev bxFl (x : Fld) (A : Option Addr) (c : Nat) : Obj := .cells #[.string x.f.name, .int .i64 x.f.kind, .slice A x.en.length c, .int .i64 x.y.k, .int .i64 x.y.i, .bool x.y.b, .string x.y.s, .float .f64 x.y.n] 83
theorem Fdp_new (w : World) (x : Fld) (A : Option Addr) (c : Nat) : Fdp (w.alloc (bxFl x A c)) ⟨w.heap.size, 0, none⟩ x.f.name x.f.kind A x.en.length c x.y := by
  have h := heap_alloc_new w (bxFl x A c)
  exact ⟨(cell_of_row _ _ 0 _ _ (0, 0) h).trans rfl, (cell_of_row _ _ 1 _ _ (0, 0) h).trans rfl, (cell_of_row _ _ 2 _ _ (0, 0) h).trans rfl, (cell_of_row _ _ 3 _ _ (0, 0) h).trans rfl, (cell_of_row _ _ 4 _ _ (0, 0) h).trans rfl, (cell_of_row _ _ 5 _ _ (0, 0) h).trans rfl, (cell_of_row _ _ 6 _ _ (0, 0) h).trans rfl, (cell_of_row _ _ 7 _ _ (0, 0) h).trans rfl⟩
theorem al_lt (w : World) (o : Obj) : w.heap.size < (w.alloc o).heap.size := by simp
set_option maxHeartbeats 1000000 in
theorem rightField_any (x : Fld) (A : Option Addr) (c : Nat) (w : World) (h : Ss w (.slice A x.en.length c) x.en) : Calls Tryz.prog 121 #[agFl x A c] w (VMk (.bool (fieldR x)) w) := by
  have HN := Lib.hid (fun W => isName_any x.f.name W)
  have HE := Lib.hid (fun W (hb : Below w.heap.size w W) => rightEnum_any x A c W (h.below hb (Nat.le_refl _)))
  have HF := Lib.hid (fun W (hb : Below w.heap.size w W) => Fits_val x.y x.f.name x.f.kind (.slice A x.en.length c) x.y x.en W (h.below hb (Nat.le_refl _)))
  have HK := Lib.hid (fun W (hb : Below (w.alloc (bxFl x A c)).heap.size (w.alloc (bxFl x A c)) W) => (Fdp_new w x A c).below hb (al_lt w _))
  have HB := Lib.hid (alloc1 w (bxFl x A c))
  have hsf := fun (w : World) (a : Addr) (m : Mode) (b : Nat) => run_store Tryz.prog w a (.float .f64 b) m rfl
  unfold fieldR
  clear h
  generalize nameB x.f.name = b1 at *
  generalize enumR x = b2 at *
  generalize fitsV x.y x.f.kind x.en = z at *
  go_enter Tryz.func121, Tryz.ntmps121
  rcases b1 with _ | _ <;> rcases b2 with _ | _
  all_goals
    go_wp2_with (first | fail | (go_at_call 63; refine (HN.out _).mono ?_; rintro e w1 ⟨rfl, rfl⟩) | (go_at_call 174; refine (HE.out _ HB.out).mono ?_; rintro e w1 ⟨rfl, hb1⟩; obtain ⟨q0, q1, q2, q3, q4, q5, q6, q7⟩ := HK.out _ hb1) | (go_at_call 152; refine (HF.out _ (bel2 HB.out hb1)).mono ?_; rintro e w2 ⟨rfl, hb2⟩))
    go_ret
    first | exact ⟨ret_bool (by simp), alloc1 w _⟩ | exact ⟨ret_bool (by simp), bel2 (alloc1 w _) hb1⟩ | exact ⟨ret_bool (by simp), bel2 (bel2 (alloc1 w _) hb1) hb2⟩
theorem clo_Effect (p : Nat) (nm : ByteArray) (x : Eff) (A : Option Addr) (c : Nat) (w : World) (h : w.cell? ⟨p, 0, none⟩ = some (.string nm)) :
    Calls Tryz.prog 249 #[agEf x A c, .pointer (some ⟨p, 0, none⟩)] w (VMk (.bool (x.field.toList == nm.toList)) w) := by
  have hp : p < w.heap.size := World.block_lt_of_cell? w _ h
  generalize hb : (x.field.toList == nm.toList) = b
  have hne : ¬ w.heap.size = p := by omega
  go_enter Tryz.func249, Tryz.ntmps249
  go_wp2
  go_ret
  exact ⟨rfl, (Below.refl _ _).alloc (Nat.le_refl _) _⟩
theorem first_Effect (nm : ByteArray) : ∀ (l : List Eff) (i : Nat), firstB (fun x => x.field.toList == nm.toList) l i = placeN nm (l.map Eff.field) i
  | [], _ => rfl
  | x :: l, i => by
    rw [firstB, List.map_cons, placeN, first_Effect nm l (i + 1)]
set_option maxHeartbeats 1000000 in
theorem effectOn_any (A : Option Addr) (c : Nat) (l : List Eff) (nm : ByteArray) (w : World) (h : EffK w A c l) :
    Calls Tryz.prog 223 #[.slice A l.length c, .string nm] w (VMk (.int .i64 (placeN nm (l.map Eff.field) 0)) w) := by
  have hb2 := alloc1 w (.cells #[.string nm] 9)
  have hcell : (w.alloc (.cells #[.string nm] 9)).cell? ⟨w.heap.size, 0, none⟩ = some (.string nm) := (cell_of_row _ _ 0 _ _ (0, 0) (heap_alloc_new w _)).trans rfl
  have hi := idx_Effect (fun x => x.field.toList == nm.toList) w.heap.size A c l _ (EffK.below h hb2) (fun x _ A c W hW _ => clo_Effect w.heap.size nm x A c W (keepc hW (World.block_lt_of_cell? _ _ hcell) hcell))
  rw [first_Effect] at hi
  have HI := Lib.hid hi
  have HB := Lib.hid hb2
  clear hi hb2 hcell h
  go_enter Tryz.func223, Tryz.ntmps223
  go_wp2_with (go_at_call 248; refine HI.out.mono ?_; rintro e w1 ⟨rfl, hb1⟩)
  go_ret
  exact ⟨rfl, HB.out.trans (hb1.mono HB.out.size)⟩
theorem clo1_Effect (p : Nat) (EA : Option Addr) (ec : Nat) (l : List Eff) (x : Eff) (A : Option Addr) (c : Nat) (w : World) (h0 : w.cell? ⟨p, 0, none⟩ = some (.slice EA l.length ec)) (h : EffK w EA ec l) :
    Calls Tryz.prog 222 #[agEf x A c, .pointer (some ⟨p, 0, none⟩)] w (VMk (.int .i64 (placeN x.field (l.map Eff.field) 0)) w) := by
  have hp : p < w.heap.size := World.block_lt_of_cell? w _ h0
  have hne : ¬ w.heap.size = p := by omega
  have HC := Lib.hid (fun o => effectOn_any EA ec l x.field (w.alloc o) (EffK.below h (alloc1 w o)))
  clear h
  generalize placeN x.field (l.map Eff.field) 0 = r at *
  go_enter Tryz.func222, Tryz.ntmps222
  go_wp2_with (go_at_call 223; refine (HC.out _).mono ?_; rintro e w1 ⟨rfl, hb1⟩)
  go_ret
  exact ⟨rfl, bel2 (alloc1 w _) hb1⟩
set_option maxHeartbeats 1000000 in
theorem tells_any (e : Ex) (A : Option Addr) (c : Nat) (ct : Ctr) (FA : Option Addr) (fc : Nat) (SA : Option Addr) (sc : Nat) (MA : Option Addr) (mc : Nat) (kind : Int) (w : World) (hx : ExE w A c e) (h : CtK w ct FA fc SA sc MA mc) :
    Calls Tryz.prog 181 #[agX e.op A e.kids.length c e.name e.val, agC ct.name FA ct.fs.length fc SA ct.ss.length sc MA ct.ms.length mc, .int .i64 kind] w (VMk (.bool (tellsR e (ct.fs.map Fld.f) kind)) w) := by
  obtain ⟨D, hx⟩ := hx
  have hc := (fun o1 o2 => eCheck_any FA fc (ct.fs.map Fld.f) D e A c ((w.alloc o1).alloc o2) (hx.below (bel2 (alloc1 w o1) (alloc1 _ o2)) (Nat.le_refl _)) ((h.below (bel2 (alloc1 w o1) (alloc1 _ o2))).f.fdk))
  unfold tellsR
  rw [List.length_map] at hc
  generalize checkX e (ct.fs.map Fld.f) = q at *
  obtain ⟨k, x⟩ := q
  have HC := Lib.hid hc
  clear hc hx h
  have hsf := fun (w : World) (a : Addr) (m : Mode) (b : Nat) => run_store Tryz.prog w a (.float .f64 b) m rfl
  go_enter Tryz.func181, Tryz.ntmps181
  by_cases h0 : x = 0
  · have hz : (x == 0) = true := by rw [h0]; rfl
    clear h0
    go_wp2_with (go_at_call 220; refine (HC.out _ _).mono ?_; rintro e w1 ⟨rfl, hb1⟩)
    go_ret
    exact ⟨ret_bool (by simp [hz]), bel2 (bel2 (alloc1 w _) (alloc1 _ _)) hb1⟩
  · have hz : (x == 0) = false := by simpa using h0
    clear h0
    go_wp2_with (go_at_call 220; refine (HC.out _ _).mono ?_; rintro e w1 ⟨rfl, hb1⟩)
    go_ret
    exact ⟨ret_bool (by simp [hz]), bel2 (bel2 (alloc1 w _) (alloc1 _ _)) hb1⟩



def BxA (w : World) (b : Nat) (cs : List Value) : Prop := b < w.heap.size ∧ ∀ (i : Nat) (x : Value), cs[i]? = some x → w.cell? ⟨b, i, none⟩ = some x
theorem BxA.below {w w' : World} {b : Nat} {cs : List Value} (h : BxA w b cs) (hb : Below w.heap.size w w') : BxA w' b cs := ⟨Nat.lt_of_lt_of_le h.1 hb.size, fun i x hx => keepc hb h.1 (h.2 i x hx)⟩
theorem BxA.new (w : World) (cs : List Value) (t : TypeId) : BxA (w.alloc (.cells cs.toArray t)) w.heap.size cs := ⟨by simp, fun i x hx => (cell_of_row _ _ i _ _ (0, 0) (heap_alloc_new w _)).trans (by simpa using hx)⟩
abbrev csC (nm : ByteArray) (FA : Option Addr) (fn fc : Nat) (SA : Option Addr) (sn sc : Nat) (MA : Option Addr) (mn mc : Nat) : List Value := [.string nm, .slice FA fn fc, .slice SA sn sc, .slice MA mn mc]
abbrev csEf (x : Eff) (A : Option Addr) (c : Nat) : List Value := [.string x.field, .int .i64 x.e.op, .slice A x.e.kids.length c, .string x.e.name, .int .i64 x.e.val.k, .int .i64 x.e.val.i, .bool x.e.val.b, .string x.e.val.s, .float .f64 x.e.val.n]
abbrev csMv (x : Mv) (A : Option Addr) (c : Nat) (EA : Option Addr) (ec : Nat) : List Value := [.string x.name, .int .i64 x.frm, .int .i64 x.too, .int .i64 x.guard.op, .slice A x.guard.kids.length c, .string x.guard.name, .int .i64 x.guard.val.k, .int .i64 x.guard.val.i, .bool x.guard.val.b, .string x.guard.val.s, .float .f64 x.guard.val.n, .slice EA x.effs.length ec, .int .i64 x.org]
theorem find_map (nm : ByteArray) (l : List Fld) : placeN nm (l.map fun x => x.f.name) 0 = findX nm (l.map Fld.f) 0 := by
  rw [findX_place, List.map_map]; rfl
theorem size1 (w : World) (o : Obj) : (w.alloc o).heap.size = w.heap.size + 1 := by simp
set_option maxHeartbeats 1000000 in
theorem rightEffect_any (x : Eff) (A : Option Addr) (c : Nat) (ct : Ctr) (FA : Option Addr) (fc : Nat) (SA : Option Addr) (sc : Nat) (MA : Option Addr) (mc : Nat) (w : World) (hx : ExE w A c x.e) (h : CtK w ct FA fc SA sc MA mc) :
    Calls Tryz.prog 226 #[agC ct.name FA ct.fs.length fc SA ct.ss.length sc MA ct.ms.length mc, agEf x A c] w (VMk (.bool (effR (ct.fs.map Fld.f) x)) w) := by
  have HB := Lib.hid (bel2 (alloc1 w (bxC ct.name FA ct.fs.length fc SA ct.ss.length sc MA ct.ms.length mc)) (alloc1 (w.alloc (bxC ct.name FA ct.fs.length fc SA ct.ss.length sc MA ct.ms.length mc)) (.cells (csEf x A c).toArray 128)))
  have HC := Lib.hid ((BxA.new w (csC ct.name FA ct.fs.length fc SA ct.ss.length sc MA ct.ms.length mc) 33).below (alloc1 (w.alloc (bxC ct.name FA ct.fs.length fc SA ct.ss.length sc MA ct.ms.length mc)) (.cells (csEf x A c).toArray 128)))
  have HE := Lib.hid (BxA.new (w.alloc (bxC ct.name FA ct.fs.length fc SA ct.ss.length sc MA ct.ms.length mc)) (csEf x A c) 128)
  have hf := cField_any ct FA fc SA sc MA mc x.field _ (h.below HB.out)
  have htl := fun k W (hb : Below w.heap.size w W) => tells_any x.e A c ct FA fc SA sc MA mc k W (hx.below hb) (h.below hb)
  rw [find_map] at hf
  have HFK := Lib.hid h.f
  have hge := placeN_ge x.field ((ct.fs.map Fld.f).map Fd.name) 0
  have hlt := placeN_lt x.field ((ct.fs.map Fld.f).map Fd.name) 0
  rw [← findX_place] at hge hlt
  rw [List.length_map, List.length_map] at hlt
  rw [size1] at HE
  unfold effR
  have hm := h.f.2.1
  unfold maxLen at hm
  clear h hx
  generalize findX x.field (ct.fs.map Fld.f) 0 = i at *
  have HF := Lib.hid hf
  have HT := Lib.hid htl
  clear hf htl
  have hsf := fun (w : World) (a : Addr) (m : Mode) (b : Nat) => run_store Tryz.prog w a (.float .f64 b) m rfl
  by_cases h0 : 0 ≤ i
  · obtain ⟨k, rfl⟩ := Int.eq_ofNat_of_zero_le h0
    have hk : k < ct.fs.length := by omega
    have hd : decide ((0 : Int) ≤ (k : Int)) = true := decide_eq_true h0
    have hkd : ((((ct.fs.map Fld.f)[((k : Int)).toNat]?).map Fd.kind).getD 0) = ct.fs[k].f.kind := by
      rw [Int.toNat_natCast, List.getElem?_map, List.getElem?_eq_getElem hk]; rfl
    rw [hkd, hd, Bool.true_and]
    have hki : (k : Int) < (ct.fs.length : Int) := by omega
    obtain ⟨ad, e1, e2, fp⟩ := HFK.out.2.2.2 k hk
    have HFP := Lib.hid fp
    clear hkd hge hlt fp
    generalize ct.fs[k] = y at *
    generalize hbv : tellsR x.e (ct.fs.map Fld.f) y.f.kind = b at *
    have HT2 := Lib.hid (fun W hb => (show Calls _ _ _ _ (VMk (.bool b) W) from hbv ▸ HT.out y.f.kind W hb))
    clear hbv HT HFK
    subst e1
    go_enter Tryz.func226, Tryz.ntmps226
    go_wp2_with (first | fail | (go_at_call 119; refine HF.out.mono ?_; rintro e w1 ⟨rfl, hb1⟩))
    have hS0 : ∀ W, Below w1.heap.size w1 W → (fun W => Below w1.heap.size w1 W ∧ W.cell? ⟨(ad.add (k * 8)).block, (ad.add (k * 8)).off + 1, none⟩ = some (.int .i64 y.f.kind) ∧ W.cell? ⟨w.heap.size, 0, none⟩ = some (.string ct.name) ∧ W.cell? ⟨w.heap.size, 1, none⟩ = some (.slice (some ad) ct.fs.length fc) ∧ W.cell? ⟨w.heap.size, 2, none⟩ = some (.slice SA ct.ss.length sc) ∧ W.cell? ⟨w.heap.size, 3, none⟩ = some (.slice MA ct.ms.length mc) ∧ W.cell? ⟨w.heap.size + 1, 0, none⟩ = some (.string x.field) ∧ W.cell? ⟨w.heap.size + 1, 1, none⟩ = some (.int .i64 x.e.op) ∧ W.cell? ⟨w.heap.size + 1, 2, none⟩ = some (.slice A x.e.kids.length c) ∧ W.cell? ⟨w.heap.size + 1, 3, none⟩ = some (.string x.e.name) ∧ W.cell? ⟨w.heap.size + 1, 4, none⟩ = some (.int .i64 x.e.val.k) ∧ W.cell? ⟨w.heap.size + 1, 5, none⟩ = some (.int .i64 x.e.val.i) ∧ W.cell? ⟨w.heap.size + 1, 6, none⟩ = some (.bool x.e.val.b) ∧ W.cell? ⟨w.heap.size + 1, 7, none⟩ = some (.string x.e.val.s) ∧ W.cell? ⟨w.heap.size + 1, 8, none⟩ = some (.float .f64 x.e.val.n)) W := fun W hW => by
      obtain ⟨PA, pc, hq, -⟩ := HFP.out.below (bel2 HB.out (bel2 hb1 hW)) (by rw [block_add]; exact e2)
      exact ⟨hW, hq.2.1, (HC.out.below (bel2 hb1 hW)).2 0 _ rfl, (HC.out.below (bel2 hb1 hW)).2 1 _ rfl, (HC.out.below (bel2 hb1 hW)).2 2 _ rfl, (HC.out.below (bel2 hb1 hW)).2 3 _ rfl, (HE.out.below (bel2 hb1 hW)).2 0 _ rfl, (HE.out.below (bel2 hb1 hW)).2 1 _ rfl, (HE.out.below (bel2 hb1 hW)).2 2 _ rfl, (HE.out.below (bel2 hb1 hW)).2 3 _ rfl, (HE.out.below (bel2 hb1 hW)).2 4 _ rfl, (HE.out.below (bel2 hb1 hW)).2 5 _ rfl, (HE.out.below (bel2 hb1 hW)).2 6 _ rfl, (HE.out.below (bel2 hb1 hW)).2 7 _ rfl, (HE.out.below (bel2 hb1 hW)).2 8 _ rfl⟩
    have HKP := Lib.hid hS0
    have HS0 := Lib.hid (hS0 w1.drew (Below.refl _ _).drew)
    have HB1 := Lib.hid (bel2 HB.out hb1)
    clear hS0 hb1
    go_region_held3 (fun W => Below w1.heap.size w1 W ∧ W.cell? ⟨(ad.add (k * 8)).block, (ad.add (k * 8)).off + 1, none⟩ = some (.int .i64 y.f.kind) ∧ W.cell? ⟨w.heap.size, 0, none⟩ = some (.string ct.name) ∧ W.cell? ⟨w.heap.size, 1, none⟩ = some (.slice (some ad) ct.fs.length fc) ∧ W.cell? ⟨w.heap.size, 2, none⟩ = some (.slice SA ct.ss.length sc) ∧ W.cell? ⟨w.heap.size, 3, none⟩ = some (.slice MA ct.ms.length mc) ∧ W.cell? ⟨w.heap.size + 1, 0, none⟩ = some (.string x.field) ∧ W.cell? ⟨w.heap.size + 1, 1, none⟩ = some (.int .i64 x.e.op) ∧ W.cell? ⟨w.heap.size + 1, 2, none⟩ = some (.slice A x.e.kids.length c) ∧ W.cell? ⟨w.heap.size + 1, 3, none⟩ = some (.string x.e.name) ∧ W.cell? ⟨w.heap.size + 1, 4, none⟩ = some (.int .i64 x.e.val.k) ∧ W.cell? ⟨w.heap.size + 1, 5, none⟩ = some (.int .i64 x.e.val.i) ∧ W.cell? ⟨w.heap.size + 1, 6, none⟩ = some (.bool x.e.val.b) ∧ W.cell? ⟨w.heap.size + 1, 7, none⟩ = some (.string x.e.val.s) ∧ W.cell? ⟨w.heap.size + 1, 8, none⟩ = some (.float .f64 x.e.val.n)) (first | exact HS0.out | exact HKP.out _ HB2.out) (first
      | (go_at_call 181; refine (HT2.out _ (bel2 HB1.out (Below.refl _ _).drew)).mono ?_; rintro e w2 ⟨rfl, hb2⟩; have HB2 := Lib.hid (bel2 (Below.refl w1.heap.size w1).drew hb2)))
    go_wp2
    go_ret
    exact ⟨ret_bool (by simp), bel2 HB1.out HB2.out⟩
  · have hd : decide ((0 : Int) ≤ i) = false := decide_eq_false h0
    rw [hd, Bool.false_and]
    have hneg : i < 0 := by omega
    clear h0 hge hlt
    go_enter Tryz.func226, Tryz.ntmps226
    go_wp2_with (first | fail | (go_at_call 119; refine HF.out.mono ?_; rintro e w1 ⟨rfl, hb1⟩))
    go_quiet (fail)
    go_wp2
    go_ret
    exact ⟨ret_bool (by first | (simp; done) | (simp; omega)), below_drewN (bel2 HB.out hb1) _⟩
theorem clo2_Effect (p : Nat) (x : Eff) (A : Option Addr) (c : Nat) (ct : Ctr) (FA : Option Addr) (fc : Nat) (SA : Option Addr) (sc : Nat) (MA : Option Addr) (mc : Nat) (w : World) (hbx : BxA w p (csC ct.name FA ct.fs.length fc SA ct.ss.length sc MA ct.ms.length mc)) (hx : ExE w A c x.e) (h : CtK w ct FA fc SA sc MA mc) :
    Calls Tryz.prog 225 #[agEf x A c, .pointer (some ⟨p, 0, none⟩)] w (VMk (.bool (effR (ct.fs.map Fld.f) x)) w) := by
  have hp : p < w.heap.size := hbx.1
  have hne : ¬ w.heap.size = p := by omega
  have h0 := hbx.2 0 _ rfl
  have h1 := hbx.2 1 _ rfl
  have h2 := hbx.2 2 _ rfl
  have h3 := hbx.2 3 _ rfl
  have HC := Lib.hid (fun o => rightEffect_any x A c ct FA fc SA sc MA mc (w.alloc o) (hx.below (alloc1 w o)) (h.below (alloc1 w o)))
  clear h hx hbx
  generalize effR (ct.fs.map Fld.f) x = r at *
  have hsf := fun (w : World) (a : Addr) (m : Mode) (b : Nat) => run_store Tryz.prog w a (.float .f64 b) m rfl
  go_enter Tryz.func225, Tryz.ntmps225
  go_wp2_with (go_at_call 226; refine (HC.out _).mono ?_; rintro e w1 ⟨rfl, hb1⟩)
  go_ret
  exact ⟨rfl, bel2 (alloc1 w _) hb1⟩
set_option maxHeartbeats 1000000 in
theorem rightEffects_any (l : List Eff) (EA : Option Addr) (ec : Nat) (ct : Ctr) (FA : Option Addr) (fc : Nat) (SA : Option Addr) (sc : Nat) (MA : Option Addr) (mc : Nat) (w : World) (hl : EffK w EA ec l) (h : CtK w ct FA fc SA sc MA mc) :
    Calls Tryz.prog 182 #[agC ct.name FA ct.fs.length fc SA ct.ss.length sc MA ct.ms.length mc, .slice EA l.length ec] w (VMk (.bool (effsR (ct.fs.map Fld.f) l)) w) := by
  have hm := hl.2.1
  have hm1 := hl.1
  unfold maxLen at hm
  have hlen : l.length ≤ 9223372036854775807 := by omega
  have hb0 := (bel2 (alloc1 w (bxC ct.name FA ct.fs.length fc SA ct.ss.length sc MA ct.ms.length mc)) (alloc1 (w.alloc (bxC ct.name FA ct.fs.length fc SA ct.ss.length sc MA ct.ms.length mc)) (.cells #[.slice EA l.length ec] 78)))
  have hc := ((BxA.new w (csC ct.name FA ct.fs.length fc SA ct.ss.length sc MA ct.ms.length mc) 33).below (alloc1 (w.alloc (bxC ct.name FA ct.fs.length fc SA ct.ss.length sc MA ct.ms.length mc)) (.cells #[.slice EA l.length ec] 78)))
  have he := (BxA.new (w.alloc (bxC ct.name FA ct.fs.length fc SA ct.ss.length sc MA ct.ms.length mc)) [.slice EA l.length ec] 78)
  rw [size1] at he
  have ho := once_Effect (fun x => placeN x.field (l.map Eff.field) 0) (w.heap.size + 1) EA ec l _ (EffK.below hl hb0) (fun x hx A c W hW => clo1_Effect (w.heap.size + 1) EA ec l x A c W ((he.below hW).2 0 _ rfl) (EffK.below hl (bel2 hb0 hW)))
  have hea := fun W hW => each_Effect w.heap.size (effR (ct.fs.map Fld.f)) EA ec l W (EffK.below hl (bel2 hb0 hW)) (fun x hx A c W2 hW2 hdeep => clo2_Effect w.heap.size x A c ct FA fc SA sc MA mc W2 (hc.below (bel2 hW hW2)) hdeep (h.below (bel2 hb0 (bel2 hW hW2))))
  have HO := Lib.hid ho
  have HE := Lib.hid hea
  have HQ := Lib.hid (fun w1 (hb1 : Below _ _ w1) => (he.below hb1).2 0 _ rfl)
  have HB := Lib.hid hb0
  unfold effsR
  rw [onceN_of]
  clear h ho he hc hea hb0 hl hm hm1
  generalize onceF (fun x => placeN x.field (l.map Eff.field) 0) l 0 = b2 at *
  generalize l.all (effR (ct.fs.map Fld.f)) = b3 at *
  go_enter Tryz.func182, Tryz.ntmps182
  by_cases h4 : (l.length : Int) ≤ 4
  · have hd : decide ((l.length : Int) ≤ 4) = true := decide_eq_true h4
    rw [hd]
    rcases b2 with _ | _
    all_goals
      go_wp2_with (first | fail | (go_at_call 221; refine HO.out.mono ?_; rintro e w1 ⟨rfl, hb1⟩; have hq := HQ.out _ hb1) | (go_at_call 224; refine (HE.out _ hb1).mono ?_; rintro e w2 ⟨rfl, hb2⟩))
      go_ret
      first | exact ⟨ret_bool (by simp), bel2 HB.out hb1⟩ | exact ⟨ret_bool (by simp), bel2 (bel2 HB.out hb1) hb2⟩
  · have hd : decide ((l.length : Int) ≤ 4) = false := decide_eq_false h4
    rw [hd]
    go_wp2
    go_ret
    exact ⟨ret_bool (by first | (simp; done) | (simp; omega)), HB.out⟩
set_option maxHeartbeats 2000000 in
theorem rightMove_any (x : Mv) (A : Option Addr) (c : Nat) (EA : Option Addr) (ec : Nat) (ct : Ctr) (FA : Option Addr) (fc : Nat) (SA : Option Addr) (sc : Nat) (MA : Option Addr) (mc : Nat) (w : World) (hx : ExE w A c x.guard ∧ EffK w EA ec x.effs) (h : CtK w ct FA fc SA sc MA mc) :
    Calls Tryz.prog 131 #[agC ct.name FA ct.fs.length fc SA ct.ss.length sc MA ct.ms.length mc, agMv x A c EA ec] w (VMk (.bool (moveR ct x)) w) := by
  have hm := h.s.2.1
  have hm1 := h.s.1
  unfold maxLen at hm
  have hlen : ct.ss.length ≤ 9223372036854775807 := by omega
  have hw : IntKind.i64.wrap ((ct.ss.length : Int) - 1) = (ct.ss.length : Int) - 1 := by rw [IntKind.wrap_i64]; omega
  have HB := Lib.hid (bel2 (alloc1 w (bxC ct.name FA ct.fs.length fc SA ct.ss.length sc MA ct.ms.length mc)) (alloc1 (w.alloc (bxC ct.name FA ct.fs.length fc SA ct.ss.length sc MA ct.ms.length mc)) (.cells (csMv x A c EA ec).toArray 80)))
  have HC := Lib.hid ((BxA.new w (csC ct.name FA ct.fs.length fc SA ct.ss.length sc MA ct.ms.length mc) 33).below (alloc1 (w.alloc (bxC ct.name FA ct.fs.length fc SA ct.ss.length sc MA ct.ms.length mc)) (.cells (csMv x A c EA ec).toArray 80)))
  have HM := Lib.hid (BxA.new (w.alloc (bxC ct.name FA ct.fs.length fc SA ct.ss.length sc MA ct.ms.length mc)) (csMv x A c EA ec) 80)
  rw [size1] at HM
  have HN := Lib.hid (fun W => isName_any x.name W)
  have HA1 := Lib.hid (fun W => among_any x.frm 0 ((ct.ss.length : Int) - 1) W)
  have HA2 := Lib.hid (fun W => among_any x.too 0 ((ct.ss.length : Int) - 1) W)
  have HA3 := Lib.hid (fun W => among_any x.org (-1) 3 W)
  have HT := Lib.hid (fun W (hb : Below w.heap.size w W) => tells_any x.guard A c ct FA fc SA sc MA mc 2 W (hx.1.below hb) (h.below hb))
  have HE := Lib.hid (fun W (hb : Below w.heap.size w W) => rightEffects_any x.effs EA ec ct FA fc SA sc MA mc W (EffK.below hx.2 hb) (h.below hb))
  unfold moveR
  clear h hx hm hm1
  generalize nameB x.name = b1 at *
  generalize (decide (0 ≤ x.frm) && decide (x.frm ≤ (ct.ss.length : Int) - 1)) = b2 at *
  generalize (decide (0 ≤ x.too) && decide (x.too ≤ (ct.ss.length : Int) - 1)) = b3 at *
  generalize (decide (-1 ≤ x.org) && decide (x.org ≤ 3)) = b4 at *
  generalize tellsR x.guard (ct.fs.map Fld.f) 2 = b5 at *
  generalize effsR (ct.fs.map Fld.f) x.effs = b6 at *
  have hsf := fun (w : World) (a : Addr) (m : Mode) (b : Nat) => run_store Tryz.prog w a (.float .f64 b) m rfl
  go_enter Tryz.func131, Tryz.ntmps131
  rcases b1 with _ | _
  · go_wp2_with (first | fail | (go_at_call 63; refine (HN.out _).mono ?_; rintro e w1 ⟨rfl, rfl⟩))
    go_ret
    exact ⟨ret_bool (by simp), HB.out⟩
  rcases b2 with _ | _
  · go_wp2_with (first | fail | (go_at_call 63; refine (HN.out _).mono ?_; rintro e w1 ⟨rfl, rfl⟩) | (first | (go_at_call_of 116 (x.frm); refine (HA1.out _).mono ?_; rintro e w1 ⟨rfl, rfl⟩) | (go_at_call_of 116 (x.too); refine (HA2.out _).mono ?_; rintro e w1 ⟨rfl, rfl⟩) | (go_at_call_of 116 (x.org); refine (HA3.out _).mono ?_; rintro e w1 ⟨rfl, rfl⟩)))
    go_ret
    exact ⟨ret_bool (by simp), HB.out⟩
  rcases b3 with _ | _
  · go_wp2_with (first | fail | (go_at_call 63; refine (HN.out _).mono ?_; rintro e w1 ⟨rfl, rfl⟩) | (first | (go_at_call_of 116 (x.frm); refine (HA1.out _).mono ?_; rintro e w1 ⟨rfl, rfl⟩) | (go_at_call_of 116 (x.too); refine (HA2.out _).mono ?_; rintro e w1 ⟨rfl, rfl⟩) | (go_at_call_of 116 (x.org); refine (HA3.out _).mono ?_; rintro e w1 ⟨rfl, rfl⟩)))
    go_ret
    exact ⟨ret_bool (by simp), HB.out⟩
  rcases b4 with _ | _
  · go_wp2_with (first | fail | (go_at_call 63; refine (HN.out _).mono ?_; rintro e w1 ⟨rfl, rfl⟩) | (first | (go_at_call_of 116 (x.frm); refine (HA1.out _).mono ?_; rintro e w1 ⟨rfl, rfl⟩) | (go_at_call_of 116 (x.too); refine (HA2.out _).mono ?_; rintro e w1 ⟨rfl, rfl⟩) | (go_at_call_of 116 (x.org); refine (HA3.out _).mono ?_; rintro e w1 ⟨rfl, rfl⟩)))
    go_ret
    exact ⟨ret_bool (by simp), HB.out⟩
  rcases b5 with _ | _
  · go_wp2_with (first | fail | (go_at_call 63; refine (HN.out _).mono ?_; rintro e w1 ⟨rfl, rfl⟩) | (first | (go_at_call_of 116 (x.frm); refine (HA1.out _).mono ?_; rintro e w1 ⟨rfl, rfl⟩) | (go_at_call_of 116 (x.too); refine (HA2.out _).mono ?_; rintro e w1 ⟨rfl, rfl⟩) | (go_at_call_of 116 (x.org); refine (HA3.out _).mono ?_; rintro e w1 ⟨rfl, rfl⟩)) | (go_at_call 181; refine (HT.out _ HB.out).mono ?_; rintro e w1 ⟨rfl, hb1⟩; have c0 := (HC.out.below hb1).2 0 _ rfl; have c1 := (HC.out.below hb1).2 1 _ rfl; have c2 := (HC.out.below hb1).2 2 _ rfl; have c3 := (HC.out.below hb1).2 3 _ rfl; have q0 := (HM.out.below hb1).2 0 _ rfl; have q1 := (HM.out.below hb1).2 1 _ rfl; have q2 := (HM.out.below hb1).2 2 _ rfl; have q3 := (HM.out.below hb1).2 3 _ rfl; have q4 := (HM.out.below hb1).2 4 _ rfl; have q5 := (HM.out.below hb1).2 5 _ rfl; have q6 := (HM.out.below hb1).2 6 _ rfl; have q7 := (HM.out.below hb1).2 7 _ rfl; have q8 := (HM.out.below hb1).2 8 _ rfl; have q9 := (HM.out.below hb1).2 9 _ rfl; have q10 := (HM.out.below hb1).2 10 _ rfl; have q11 := (HM.out.below hb1).2 11 _ rfl; have q12 := (HM.out.below hb1).2 12 _ rfl))
    go_ret
    exact ⟨ret_bool (by simp), bel2 HB.out hb1⟩
  rcases b6 with _ | _
  · go_wp2_with (first | fail | (go_at_call 63; refine (HN.out _).mono ?_; rintro e w1 ⟨rfl, rfl⟩) | (first | (go_at_call_of 116 (x.frm); refine (HA1.out _).mono ?_; rintro e w1 ⟨rfl, rfl⟩) | (go_at_call_of 116 (x.too); refine (HA2.out _).mono ?_; rintro e w1 ⟨rfl, rfl⟩) | (go_at_call_of 116 (x.org); refine (HA3.out _).mono ?_; rintro e w1 ⟨rfl, rfl⟩)) | (go_at_call 181; refine (HT.out _ HB.out).mono ?_; rintro e w1 ⟨rfl, hb1⟩; have c0 := (HC.out.below hb1).2 0 _ rfl; have c1 := (HC.out.below hb1).2 1 _ rfl; have c2 := (HC.out.below hb1).2 2 _ rfl; have c3 := (HC.out.below hb1).2 3 _ rfl; have q0 := (HM.out.below hb1).2 0 _ rfl; have q1 := (HM.out.below hb1).2 1 _ rfl; have q2 := (HM.out.below hb1).2 2 _ rfl; have q3 := (HM.out.below hb1).2 3 _ rfl; have q4 := (HM.out.below hb1).2 4 _ rfl; have q5 := (HM.out.below hb1).2 5 _ rfl; have q6 := (HM.out.below hb1).2 6 _ rfl; have q7 := (HM.out.below hb1).2 7 _ rfl; have q8 := (HM.out.below hb1).2 8 _ rfl; have q9 := (HM.out.below hb1).2 9 _ rfl; have q10 := (HM.out.below hb1).2 10 _ rfl; have q11 := (HM.out.below hb1).2 11 _ rfl; have q12 := (HM.out.below hb1).2 12 _ rfl) | (go_at_call 182; refine (HE.out _ (bel2 HB.out hb1)).mono ?_; rintro e w2 ⟨rfl, hb2⟩))
    go_ret
    exact ⟨ret_bool (by simp), bel2 (bel2 HB.out hb1) hb2⟩
  go_wp2_with (first | fail | (go_at_call 63; refine (HN.out _).mono ?_; rintro e w1 ⟨rfl, rfl⟩) | (first | (go_at_call_of 116 (x.frm); refine (HA1.out _).mono ?_; rintro e w1 ⟨rfl, rfl⟩) | (go_at_call_of 116 (x.too); refine (HA2.out _).mono ?_; rintro e w1 ⟨rfl, rfl⟩) | (go_at_call_of 116 (x.org); refine (HA3.out _).mono ?_; rintro e w1 ⟨rfl, rfl⟩)) | (go_at_call 181; refine (HT.out _ HB.out).mono ?_; rintro e w1 ⟨rfl, hb1⟩; have c0 := (HC.out.below hb1).2 0 _ rfl; have c1 := (HC.out.below hb1).2 1 _ rfl; have c2 := (HC.out.below hb1).2 2 _ rfl; have c3 := (HC.out.below hb1).2 3 _ rfl; have q0 := (HM.out.below hb1).2 0 _ rfl; have q1 := (HM.out.below hb1).2 1 _ rfl; have q2 := (HM.out.below hb1).2 2 _ rfl; have q3 := (HM.out.below hb1).2 3 _ rfl; have q4 := (HM.out.below hb1).2 4 _ rfl; have q5 := (HM.out.below hb1).2 5 _ rfl; have q6 := (HM.out.below hb1).2 6 _ rfl; have q7 := (HM.out.below hb1).2 7 _ rfl; have q8 := (HM.out.below hb1).2 8 _ rfl; have q9 := (HM.out.below hb1).2 9 _ rfl; have q10 := (HM.out.below hb1).2 10 _ rfl; have q11 := (HM.out.below hb1).2 11 _ rfl; have q12 := (HM.out.below hb1).2 12 _ rfl) | (go_at_call 182; refine (HE.out _ (bel2 HB.out hb1)).mono ?_; rintro e w2 ⟨rfl, hb2⟩))
  go_ret
  exact ⟨ret_bool (by simp), bel2 (bel2 HB.out hb1) hb2⟩
theorem clo2_Move (p : Nat) (x : Mv) (A : Option Addr) (c : Nat) (EA : Option Addr) (ec : Nat) (ct : Ctr) (FA : Option Addr) (fc : Nat) (SA : Option Addr) (sc : Nat) (MA : Option Addr) (mc : Nat) (w : World) (hbx : BxA w p (csC ct.name FA ct.fs.length fc SA ct.ss.length sc MA ct.ms.length mc)) (hx : ExE w A c x.guard ∧ EffK w EA ec x.effs) (h : CtK w ct FA fc SA sc MA mc) :
    Calls Tryz.prog 130 #[agMv x A c EA ec, .pointer (some ⟨p, 0, none⟩)] w (VMk (.bool (moveR ct x)) w) := by
  have hp : p < w.heap.size := hbx.1
  have hne : ¬ w.heap.size = p := by omega
  have h0 := hbx.2 0 _ rfl
  have h1 := hbx.2 1 _ rfl
  have h2 := hbx.2 2 _ rfl
  have h3 := hbx.2 3 _ rfl
  have HC := Lib.hid (fun o => rightMove_any x A c EA ec ct FA fc SA sc MA mc (w.alloc o) ⟨hx.1.below (alloc1 w o), EffK.below hx.2 (alloc1 w o)⟩ (h.below (alloc1 w o)))
  clear h hx hbx
  generalize moveR ct x = r at *
  have hsf := fun (w : World) (a : Addr) (m : Mode) (b : Nat) => run_store Tryz.prog w a (.float .f64 b) m rfl
  go_enter Tryz.func130, Tryz.ntmps130
  go_wp2_with (go_at_call 131; refine (HC.out _).mono ?_; rintro e w1 ⟨rfl, hb1⟩)
  go_ret
  exact ⟨rfl, bel2 (alloc1 w _) hb1⟩



set_option maxHeartbeats 1000000 in
theorem rightFields_any (ct : Ctr) (FA : Option Addr) (fc : Nat) (SA : Option Addr) (sc : Nat) (MA : Option Addr) (mc : Nat) (w : World) (h : CtK w ct FA fc SA sc MA mc) :
    Calls Tryz.prog 64 #[agC ct.name FA ct.fs.length fc SA ct.ss.length sc MA ct.ms.length mc] w (VMk (.bool (fieldsR ct)) w) := by
  have hm := h.f.2.1
  have hm1 := h.f.1
  unfold maxLen at hm
  have hlen : ct.fs.length ≤ 9223372036854775807 := by omega
  have hb0 := alloc1 w (bxC ct.name FA ct.fs.length fc SA ct.ss.length sc MA ct.ms.length mc)
  have hc := BxA.new w (csC ct.name FA ct.fs.length fc SA ct.ss.length sc MA ct.ms.length mc) 33
  have ho := once_Field (fun x => placeN x.f.name (ct.fs.map fun x => x.f.name) 0) w.heap.size FA fc ct.fs _ (h.f.below hb0) (fun x hx A c W hW => clo1_Field w.heap.size ct FA fc SA sc MA mc x A c W ((hc.below hW).2 0 _ rfl) ((hc.below hW).2 1 _ rfl) ((hc.below hW).2 2 _ rfl) ((hc.below hW).2 3 _ rfl) (h.below (bel2 hb0 hW)))
  have he := fun W hW => each_Field fieldR FA fc ct.fs W (h.f.below (bel2 hb0 hW)) (fun x hx A c W2 hW2 hI => rightField_any x A c W2 hI)
  have HO := Lib.hid ho
  have HE := Lib.hid he
  have HQ := Lib.hid (fun w1 (hb1 : Below _ _ w1) => (hc.below hb1).2 1 _ rfl)
  have HB := Lib.hid hb0
  unfold fieldsR
  rw [onceN_of]
  clear h ho he hc hb0 hm hm1
  generalize onceF (fun x => placeN x.f.name (ct.fs.map fun x => x.f.name) 0) ct.fs 0 = b2 at *
  generalize ct.fs.all fieldR = b3 at *
  go_enter Tryz.func64, Tryz.ntmps64
  by_cases h4 : (ct.fs.length : Int) ≤ 6
  · have hd : decide ((ct.fs.length : Int) ≤ 6) = true := decide_eq_true h4
    rw [hd]
    rcases b2 with _ | _
    all_goals
      go_wp2_with (first | fail | (go_at_call 117; refine HO.out.mono ?_; rintro e w1 ⟨rfl, hb1⟩; have hq := HQ.out _ hb1) | (go_at_call 120; refine (HE.out _ hb1).mono ?_; rintro e w2 ⟨rfl, hb2⟩))
      go_ret
      first | exact ⟨ret_bool (by simp), bel2 HB.out hb1⟩ | exact ⟨ret_bool (by simp), bel2 (bel2 HB.out hb1) hb2⟩
  · have hd : decide ((ct.fs.length : Int) ≤ 6) = false := decide_eq_false h4
    rw [hd]
    go_wp2
    go_ret
    exact ⟨ret_bool (by first | (simp; done) | (simp; omega)), HB.out⟩
set_option maxHeartbeats 1000000 in
theorem rightMoves_any (ct : Ctr) (FA : Option Addr) (fc : Nat) (SA : Option Addr) (sc : Nat) (MA : Option Addr) (mc : Nat) (w : World) (h : CtK w ct FA fc SA sc MA mc) :
    Calls Tryz.prog 66 #[agC ct.name FA ct.fs.length fc SA ct.ss.length sc MA ct.ms.length mc] w (VMk (.bool (movesR ct)) w) := by
  have hm := h.m.2.1
  have hm1 := h.m.1
  unfold maxLen at hm
  have hlen : ct.ms.length ≤ 9223372036854775807 := by omega
  have hb0 := alloc1 w (bxC ct.name FA ct.fs.length fc SA ct.ss.length sc MA ct.ms.length mc)
  have hc := BxA.new w (csC ct.name FA ct.fs.length fc SA ct.ss.length sc MA ct.ms.length mc) 33
  have ho := once_Move (fun x => placeN x.name (ct.ms.map fun x => x.name) 0) w.heap.size MA mc ct.ms _ (h.m.below hb0) (fun x hx A c EA ec W hW => clo1_Move w.heap.size ct FA fc SA sc MA mc x A c EA ec W ((hc.below hW).2 0 _ rfl) ((hc.below hW).2 1 _ rfl) ((hc.below hW).2 2 _ rfl) ((hc.below hW).2 3 _ rfl) (h.below (bel2 hb0 hW)))
  have he := fun W hW => each_Move w.heap.size (moveR ct) MA mc ct.ms W (h.m.below (bel2 hb0 hW)) (fun x hx A c EA ec W2 hW2 hI => clo2_Move w.heap.size x A c EA ec ct FA fc SA sc MA mc W2 (hc.below (bel2 hW hW2)) hI (h.below (bel2 hb0 (bel2 hW hW2))))
  have HO := Lib.hid ho
  have HE := Lib.hid he
  have HQ := Lib.hid (fun w1 (hb1 : Below _ _ w1) => (hc.below hb1).2 3 _ rfl)
  have HB := Lib.hid hb0
  unfold movesR
  rw [onceN_of]
  clear h ho he hc hb0 hm hm1
  generalize onceF (fun x => placeN x.name (ct.ms.map fun x => x.name) 0) ct.ms 0 = b2 at *
  generalize ct.ms.all (moveR ct) = b3 at *
  go_enter Tryz.func66, Tryz.ntmps66
  by_cases h4 : (ct.ms.length : Int) ≤ 8
  · have hd : decide ((ct.ms.length : Int) ≤ 8) = true := decide_eq_true h4
    rw [hd]
    rcases b2 with _ | _
    all_goals
      go_wp2_with (first | fail | (go_at_call 126; refine HO.out.mono ?_; rintro e w1 ⟨rfl, hb1⟩; have hq := HQ.out _ hb1) | (go_at_call 129; refine (HE.out _ hb1).mono ?_; rintro e w2 ⟨rfl, hb2⟩))
      go_ret
      first | exact ⟨ret_bool (by simp), bel2 HB.out hb1⟩ | exact ⟨ret_bool (by simp), bel2 (bel2 HB.out hb1) hb2⟩
  · have hd : decide ((ct.ms.length : Int) ≤ 8) = false := decide_eq_false h4
    rw [hd]
    go_wp2
    go_ret
    exact ⟨ret_bool (by first | (simp; done) | (simp; omega)), HB.out⟩
set_option maxHeartbeats 2000000 in
theorem cCheck_any (ct : Ctr) (FA : Option Addr) (fc : Nat) (SA : Option Addr) (sc : Nat) (MA : Option Addr) (mc : Nat) (w : World) (h : CtK w ct FA fc SA sc MA mc) :
    Calls Tryz.prog 33 #[agC ct.name FA ct.fs.length fc SA ct.ss.length sc MA ct.ms.length mc] w (VMk (.int .i64 (checkC ct)) w) := by
  have HB := Lib.hid (alloc1 w (bxC ct.name FA ct.fs.length fc SA ct.ss.length sc MA ct.ms.length mc))
  have HC := Lib.hid (BxA.new w (csC ct.name FA ct.fs.length fc SA ct.ss.length sc MA ct.ms.length mc) 33)
  have HN := Lib.hid (fun W => isName_any ct.name W)
  have HF := Lib.hid (fun W (hb : Below w.heap.size w W) => rightFields_any ct FA fc SA sc MA mc W (h.below hb))
  have HS := Lib.hid (fun W (hb : Below w.heap.size w W) => rightStages_any ct FA fc SA sc MA mc W (h.below hb))
  have HM := Lib.hid (fun W (hb : Below w.heap.size w W) => rightMoves_any ct FA fc SA sc MA mc W (h.below hb))
  unfold checkC
  clear h
  generalize nameB ct.name = b1 at *
  generalize fieldsR ct = b2 at *
  generalize stagesR ct = b3 at *
  generalize movesR ct = b4 at *
  go_enter Tryz.func33, Tryz.ntmps33
  rcases b1 with _ | _
  · go_wp2_with (first | fail | (go_at_call 63; refine (HN.out _).mono ?_; rintro e w1 ⟨rfl, rfl⟩))
    go_ret
    exact ⟨rfl, HB.out⟩
  rcases b2 with _ | _
  · go_wp2_with (first | fail | (go_at_call 63; refine (HN.out _).mono ?_; rintro e w1 ⟨rfl, rfl⟩) | (go_at_call 64; refine (HF.out _ (HB.out)).mono ?_; rintro e w2 ⟨rfl, hb2⟩; (try clear c0); (try clear c1); (try clear c2); (try clear c3); have c0 := (HC.out.below (hb2)).2 0 _ rfl; have c1 := (HC.out.below (hb2)).2 1 _ rfl; have c2 := (HC.out.below (hb2)).2 2 _ rfl; have c3 := (HC.out.below (hb2)).2 3 _ rfl))
    go_ret
    exact ⟨rfl, bel2 (HB.out) hb2⟩
  rcases b3 with _ | _
  · go_wp2_with (first | fail | (go_at_call 63; refine (HN.out _).mono ?_; rintro e w1 ⟨rfl, rfl⟩) | (go_at_call 64; refine (HF.out _ (HB.out)).mono ?_; rintro e w2 ⟨rfl, hb2⟩; (try clear c0); (try clear c1); (try clear c2); (try clear c3); have c0 := (HC.out.below (hb2)).2 0 _ rfl; have c1 := (HC.out.below (hb2)).2 1 _ rfl; have c2 := (HC.out.below (hb2)).2 2 _ rfl; have c3 := (HC.out.below (hb2)).2 3 _ rfl) | (go_at_call 65; refine (HS.out _ (bel2 (HB.out) hb2)).mono ?_; rintro e w3 ⟨rfl, hb3⟩; (try clear c0); (try clear c1); (try clear c2); (try clear c3); have c0 := (HC.out.below (bel2 hb2 hb3)).2 0 _ rfl; have c1 := (HC.out.below (bel2 hb2 hb3)).2 1 _ rfl; have c2 := (HC.out.below (bel2 hb2 hb3)).2 2 _ rfl; have c3 := (HC.out.below (bel2 hb2 hb3)).2 3 _ rfl))
    go_ret
    exact ⟨rfl, bel2 (bel2 (HB.out) hb2) hb3⟩
  rcases b4 with _ | _
  · go_wp2_with (first | fail | (go_at_call 63; refine (HN.out _).mono ?_; rintro e w1 ⟨rfl, rfl⟩) | (go_at_call 64; refine (HF.out _ (HB.out)).mono ?_; rintro e w2 ⟨rfl, hb2⟩; (try clear c0); (try clear c1); (try clear c2); (try clear c3); have c0 := (HC.out.below (hb2)).2 0 _ rfl; have c1 := (HC.out.below (hb2)).2 1 _ rfl; have c2 := (HC.out.below (hb2)).2 2 _ rfl; have c3 := (HC.out.below (hb2)).2 3 _ rfl) | (go_at_call 65; refine (HS.out _ (bel2 (HB.out) hb2)).mono ?_; rintro e w3 ⟨rfl, hb3⟩; (try clear c0); (try clear c1); (try clear c2); (try clear c3); have c0 := (HC.out.below (bel2 hb2 hb3)).2 0 _ rfl; have c1 := (HC.out.below (bel2 hb2 hb3)).2 1 _ rfl; have c2 := (HC.out.below (bel2 hb2 hb3)).2 2 _ rfl; have c3 := (HC.out.below (bel2 hb2 hb3)).2 3 _ rfl) | (go_at_call 66; refine (HM.out _ (bel2 (bel2 (HB.out) hb2) hb3)).mono ?_; rintro e w4 ⟨rfl, hb4⟩; (try clear c0); (try clear c1); (try clear c2); (try clear c3); have c0 := (HC.out.below (bel2 (bel2 hb2 hb3) hb4)).2 0 _ rfl; have c1 := (HC.out.below (bel2 (bel2 hb2 hb3) hb4)).2 1 _ rfl; have c2 := (HC.out.below (bel2 (bel2 hb2 hb3) hb4)).2 2 _ rfl; have c3 := (HC.out.below (bel2 (bel2 hb2 hb3) hb4)).2 3 _ rfl))
    go_ret
    exact ⟨rfl, bel2 (bel2 (bel2 (HB.out) hb2) hb3) hb4⟩
  go_wp2_with (first | fail | (go_at_call 63; refine (HN.out _).mono ?_; rintro e w1 ⟨rfl, rfl⟩) | (go_at_call 64; refine (HF.out _ (HB.out)).mono ?_; rintro e w2 ⟨rfl, hb2⟩; (try clear c0); (try clear c1); (try clear c2); (try clear c3); have c0 := (HC.out.below (hb2)).2 0 _ rfl; have c1 := (HC.out.below (hb2)).2 1 _ rfl; have c2 := (HC.out.below (hb2)).2 2 _ rfl; have c3 := (HC.out.below (hb2)).2 3 _ rfl) | (go_at_call 65; refine (HS.out _ (bel2 (HB.out) hb2)).mono ?_; rintro e w3 ⟨rfl, hb3⟩; (try clear c0); (try clear c1); (try clear c2); (try clear c3); have c0 := (HC.out.below (bel2 hb2 hb3)).2 0 _ rfl; have c1 := (HC.out.below (bel2 hb2 hb3)).2 1 _ rfl; have c2 := (HC.out.below (bel2 hb2 hb3)).2 2 _ rfl; have c3 := (HC.out.below (bel2 hb2 hb3)).2 3 _ rfl) | (go_at_call 66; refine (HM.out _ (bel2 (bel2 (HB.out) hb2) hb3)).mono ?_; rintro e w4 ⟨rfl, hb4⟩; (try clear c0); (try clear c1); (try clear c2); (try clear c3); have c0 := (HC.out.below (bel2 (bel2 hb2 hb3) hb4)).2 0 _ rfl; have c1 := (HC.out.below (bel2 (bel2 hb2 hb3) hb4)).2 1 _ rfl; have c2 := (HC.out.below (bel2 (bel2 hb2 hb3) hb4)).2 2 _ rfl; have c3 := (HC.out.below (bel2 (bel2 hb2 hb3) hb4)).2 3 _ rfl))
  go_ret
  exact ⟨rfl, bel2 (bel2 (bel2 (HB.out) hb2) hb3) hb4⟩



def fldN : Fld := ⟨⟨⟨#[110]⟩, 1⟩, [], vInt 0⟩
def stgS : Stg := ⟨⟨#[115]⟩, 0, []⟩
def stgT : Stg := ⟨⟨#[116]⟩, 1, [0, 2]⟩
def mvYes : Mv := ⟨⟨#[109]⟩, 0, 1, conX (vTruth true), [], -1⟩
def ctOne : Ctr := ⟨⟨#[99]⟩, [fldN], [stgS, stgT], [mvYes]⟩
theorem once_one (nm : ByteArray) : onceN [nm] = true := by
  rw [onceN_iff]
  intro i hi
  have h0 : i = 0 := by have : i < 1 := hi; omega
  subst h0
  show placeN nm [nm] 0 = 0
  unfold placeN
  rw [if_pos (beq_self_eq_true _)]
  rfl
theorem ne_ts : ((⟨#[115]⟩ : ByteArray).toList == (⟨#[116]⟩ : ByteArray).toList) = false := by
  rw [ByteArray.toList_eq, ByteArray.toList_eq]
  decide
theorem place_t : placeN ⟨#[116]⟩ [⟨#[115]⟩, ⟨#[116]⟩] 0 = 1 := by
  unfold placeN
  rw [ne_ts, if_neg (by decide)]
  unfold placeN
  rw [if_pos (beq_self_eq_true _)]
  rfl
theorem place_s : placeN ⟨#[115]⟩ [⟨#[115]⟩, ⟨#[116]⟩] 0 = 0 := by
  unfold placeN
  rw [if_pos (beq_self_eq_true _)]
  rfl
theorem once_st : onceN [⟨#[115]⟩, ⟨#[116]⟩] = true := by
  rw [onceN_iff]
  intro i hi
  match i, hi with
  | 0, _ => exact place_s
  | 1, _ => exact place_t
theorem name_one (b : UInt8) : nameB ⟨#[b]⟩ = true := rfl
theorem fldN_right : fieldR fldN = true := by
  have h : fitsV (vInt 0) 1 [] = 0 := by unfold fitsV; rw [good_int]; rfl
  have h1 : fitsV fldN.y fldN.f.kind fldN.en = 0 := h
  unfold fieldR
  rw [h1]
  rfl
theorem stgs_right : [stgS, stgT].all stageR = true := by decide
theorem fields_one (ss : List Stg) (ms : List Mv) : fieldsR ⟨⟨#[99]⟩, [fldN], ss, ms⟩ = true := by
  unfold fieldsR
  have h : onceN ([fldN].map fun f => f.f.name) = true := once_one _
  have h2 : [fldN].all fieldR = true := by rw [List.all_cons, fldN_right]; rfl
  show (decide ((([fldN].length : Nat) : Int) ≤ 6) && onceN ([fldN].map fun f => f.f.name) && [fldN].all fieldR) = true
  rw [h, h2]
  rfl
theorem stages_st (fs : List Fld) (ms : List Mv) : stagesR ⟨⟨#[99]⟩, fs, [stgS, stgT], ms⟩ = true := by
  unfold stagesR
  have h : onceN ([stgS, stgT].map Stg.name) = true := once_st
  show ((decide (1 ≤ (([stgS, stgT].length : Nat) : Int)) && decide ((([stgS, stgT].length : Nat) : Int) ≤ 6)) && onceN ([stgS, stgT].map Stg.name) && [stgS, stgT].all stageR) = true
  rw [h, stgs_right]
  rfl
theorem check_con (v : Vl) (fs : List Fd) (hg : goodV v = true) : checkX (conX v) fs = (v.k, 0) := by
  unfold checkX
  rw [if_pos (show smallX (conX v) = true from rfl)]
  exact chk_con 5 v fs hg
theorem one_right : checkC ctOne = 0 := by
  have h4 : movesR ctOne = true := by
    have h1 : onceN (ctOne.ms.map Mv.name) = true := once_one _
    have h2 : moveR ctOne mvYes = true := by
      have ht : tellsR mvYes.guard (ctOne.fs.map Fld.f) 2 = true := by
        unfold tellsR
        rw [show checkX mvYes.guard (ctOne.fs.map Fld.f) = (2, 0) from check_con _ _ (good_truth true)]
        rfl
      unfold moveR
      rw [ht, show effsR (ctOne.fs.map Fld.f) mvYes.effs = true from rfl]
      rfl
    have h3 : ctOne.ms.all (moveR ctOne) = true := by
      show [mvYes].all (moveR ctOne) = true
      rw [List.all_cons, h2]; rfl
    unfold movesR
    rw [h1, h3]
    rfl
  unfold checkC
  rw [show nameB ctOne.name = true from rfl, show fieldsR ctOne = true from fields_one _ _, show stagesR ctOne = true from stages_st _ _, h4]
  rfl
theorem i64_lit {n : Int} (h : -100 ≤ n) (h2 : n ≤ 100) : in64 n := by unfold in64; omega
theorem okX_con {v : Vl} (h : okV v) : ∀ k, okX k (conX v)
  | 0 => trivial
  | k + 1 => ⟨h, show in64 1 from i64_lit (by decide) (by decide), fun x hx => by cases hx⟩
theorem one_ok : okC ctOne := by
  refine ⟨fun f hf => ?_, fun s hs => ?_, fun m hm => ?_⟩
  · obtain rfl : f = fldN := by simpa [ctOne] using hf
    exact ⟨ok_int (i64_lit (by decide) (by decide)), i64_lit (by decide) (by decide)⟩
  · have : s = stgS ∨ s = stgT := by simpa [ctOne] using hs
    rcases this with rfl | rfl
    · exact ⟨i64_lit (by decide) (by decide), fun o ho => by cases ho⟩
    · refine ⟨i64_lit (by decide) (by decide), fun o ho => ?_⟩
      have : o = 0 ∨ o = 2 := by simpa [stgT] using ho
      rcases this with rfl | rfl <;> exact i64_lit (by decide) (by decide)
  · obtain rfl : m = mvYes := by simpa [ctOne] using hm
    exact ⟨i64_lit (by decide) (by decide), i64_lit (by decide) (by decide), i64_lit (by decide) (by decide), okX_con (ok_truth true), fun e he => by cases he⟩
/-! in memory -/
theorem at_row {w : World} {g : Nat} {cs : Array Value} {t : TypeId} (h : w.heap[g]? = some (.cells cs t (0, 0))) (i : Nat) (x : Value) (hx : cs[i]? = some x) : w.cell? ⟨g, i, none⟩ = some x := (cell_of_row w g i cs t (0, 0) h).trans hx
abbrev csN (A : Option Addr) (c : Nat) : List Value := [.string ⟨#[110]⟩, .int .i64 1, .slice A 0 c, .int .i64 1, .int .i64 0, .bool false, .string ⟨#[]⟩, .float .f64 0]
abbrev csM (tt : Int) (k : Int) (b : Bool) : List Value := [.string ⟨#[109]⟩, .int .i64 0, .int .i64 tt, .int .i64 1, .slice none 0 0, .string ⟨#[]⟩, .int .i64 k, .int .i64 0, .bool b, .string ⟨#[]⟩, .float .f64 0, .slice none 0 0, .int .i64 (-1)]
theorem ss_none (w : World) : Ss w (.slice none 0 0) [] := Rd.nil w
theorem fldk_rows (w : World) (g n : Nat) (t : TypeId) (A : Option Addr) (c : Nat) (hs : Ss w (.slice A 0 c) []) (hn : n ≤ 2) (h : w.heap[g]? = some (.cells (List.replicate n (csN A c)).flatten.toArray t (0, 0))) : FldK w (some ⟨g, 0, none⟩) n (List.replicate n fldN) := by
  have hlt : g < w.heap.size := (Array.getElem?_eq_some_iff.1 h).1
  refine ⟨by simp, by unfold maxLen; omega, fun h => (by cases h), fun j hj => ?_⟩
  have hj2 : j < n := by simpa using hj
  refine ⟨_, rfl, hlt, A, c, ?_, ?_⟩
  · rw [List.getElem_replicate, Addr.add_lit]
    have hc : ∀ i (x : Value), (csN A c)[i]? = some x → w.cell? ⟨g, 0 + j * 8 + i, none⟩ = some x := fun i x hx => at_row h _ x (by
      have hcase : (n = 1 ∧ j = 0) ∨ (n = 2 ∧ j = 0) ∨ (n = 2 ∧ j = 1) := by omega
      have hi : i < 8 := (List.getElem?_eq_some_iff.1 hx).1
      rcases hcase with ⟨rfl, rfl⟩ | ⟨rfl, rfl⟩ | ⟨rfl, rfl⟩
      all_goals
        match i, hi with
        | 0, _ => exact hx
        | 1, _ => exact hx
        | 2, _ => exact hx
        | 3, _ => exact hx
        | 4, _ => exact hx
        | 5, _ => exact hx
        | 6, _ => exact hx
        | 7, _ => exact hx)
    exact ⟨hc 0 _ rfl, hc 1 _ rfl, hc 2 _ rfl, hc 3 _ rfl, hc 4 _ rfl, hc 5 _ rfl, hc 6 _ rfl, hc 7 _ rfl⟩
  · rw [List.getElem_replicate]; exact hs
theorem mvk_row (w : World) (g : Nat) (t : TypeId) (tt k : Int) (b : Bool) (m : Mv) (hm : m = ⟨⟨#[109]⟩, 0, tt, conX ⟨k, 0, b, ⟨#[]⟩, 0⟩, [], -1⟩) (h : w.heap[g]? = some (.cells (csM tt k b).toArray t (0, 0))) : MvK w (some ⟨g, 0, none⟩) 1 [m] := by
  subst hm
  have hlt : g < w.heap.size := (Array.getElem?_eq_some_iff.1 h).1
  refine ⟨by simp, by unfold maxLen; omega, fun h => (by cases h), fun j hj => ?_⟩
  have hj2 : j = 0 := by have : j < 1 := hj; omega
  subst hj2
  refine ⟨_, rfl, hlt, none, 0, none, 0, at_row h 0 _ rfl, at_row h 1 _ rfl, at_row h 2 _ rfl, ?_, ExE.leaf w _ rfl, at_row h 11 _ rfl, at_row h 12 _ rfl, RowK.none _ _ _⟩
  exact ⟨at_row h 3 _ rfl, at_row h 4 _ rfl, at_row h 5 _ rfl, at_row h 6 _ rfl, at_row h 7 _ rfl, at_row h 8 _ rfl, at_row h 9 _ rfl, at_row h 10 _ rfl⟩
theorem stgk_row (w : World) (g gi : Nat) (t t' : TypeId) (hi : w.heap[gi]? = some (.cells #[.int .i64 0, .int .i64 2] t' (0, 0)))
    (h : w.heap[g]? = some (.cells #[.string ⟨#[115]⟩, .int .i64 0, .slice none 0 0, .string ⟨#[116]⟩, .int .i64 1, .slice (some ⟨gi, 0, none⟩) 2 2] t (0, 0))) : StgK w (some ⟨g, 0, none⟩) 2 [stgS, stgT] := by
  have hlt : g < w.heap.size := (Array.getElem?_eq_some_iff.1 h).1
  have hlti : gi < w.heap.size := (Array.getElem?_eq_some_iff.1 hi).1
  refine ⟨by simp, by unfold maxLen; omega, fun h => (by cases h), fun j hj => ?_⟩
  have hj2 : j < 2 := hj
  match j, hj2 with
  | 0, _ => exact ⟨_, rfl, hlt, none, 0, at_row h 0 _ rfl, at_row h 1 _ rfl, at_row h 2 _ rfl, Rd.nil w⟩
  | 1, _ =>
    refine ⟨_, rfl, hlt, some ⟨gi, 0, none⟩, 2, at_row h 3 _ rfl, at_row h 4 _ rfl, at_row h 5 _ rfl, ⟨_, 2, rfl, Nat.le_refl 2, by unfold maxLen; omega, (by intro h; cases h), fun _ => ⟨_, rfl, hlti, fun i u hu => ?_⟩⟩⟩
    rw [Addr.add_lit, Nat.zero_add]
    have hi2 : i < 2 := (List.getElem?_eq_some_iff.1 hu).1
    match i, hi2 with
    | 0, _ => exact at_row hi 0 _ hu
    | 1, _ => exact at_row hi 1 _ hu
def CtP (c : Ctr) (w : World) (e : Ending) (w' : World) : Prop := ∃ FA fc SA sc MA mc, e = .returned (agC c.name FA c.fs.length fc SA c.ss.length sc MA c.ms.length mc) ∧ CtK w' c FA fc SA sc MA mc ∧ Below w.heap.size w w'

abbrev row3 (p0 : Int) (A0 : Option Addr) (n0 c0 : Nat) (m0 : ByteArray) (y0 : Vl) (p1 : Int) (A1 : Option Addr) (n1 c1 : Nat) (m1 : ByteArray) (y1 : Vl) (p2 : Int) (A2 : Option Addr) (n2 c2 : Nat) (m2 : ByteArray) (y2 : Vl) : Obj :=
  .cells #[.int .i64 p0, .slice A0 n0 c0, .string m0, .int .i64 y0.k, .int .i64 y0.i, .bool y0.b, .string y0.s, .float .f64 y0.n, .int .i64 p1, .slice A1 n1 c1, .string m1, .int .i64 y1.k, .int .i64 y1.i, .bool y1.b, .string y1.s, .float .f64 y1.n, .int .i64 p2, .slice A2 n2 c2, .string m2, .int .i64 y2.k, .int .i64 y2.i, .bool y2.b, .string y2.s, .float .f64 y2.n] 77
theorem ExE.three {w : World} {A0 A1 A2 : Option Addr} {c0 c1 c2 : Nat} {e0 e1 e2 : Ex} (o : Int) (h0 : ExE w A0 c0 e0) (h1 : ExE w A1 c1 e1) (h2 : ExE w A2 c2 e2) :
    ExE (w.alloc (row3 e0.op A0 e0.kids.length c0 e0.name e0.val e1.op A1 e1.kids.length c1 e1.name e1.val e2.op A2 e2.kids.length c2 e2.name e2.val)) (some ⟨w.heap.size, 0, none⟩) 3 (opX o [e0, e1, e2]) := by
  obtain ⟨D0, h0⟩ := h0
  obtain ⟨D1, h1⟩ := h1
  obtain ⟨D2, h2⟩ := h2
  have hn := heap_alloc_new w (row3 e0.op A0 e0.kids.length c0 e0.name e0.val e1.op A1 e1.kids.length c1 e1.name e1.val e2.op A2 e2.kids.length c2 e2.name e2.val)
  have hb : Below w.heap.size w (w.alloc (row3 e0.op A0 e0.kids.length c0 e0.name e0.val e1.op A1 e1.kids.length c1 e1.name e1.val e2.op A2 e2.kids.length c2 e2.name e2.val)) := alloc1 _ _
  have g0 := (h0.upto (D1 + D2)).below hb (Nat.le_refl _)
  have g1 := (h1.upto (D0 + D2)).below hb (Nat.le_refl _)
  have g2 := (h2.upto (D0 + D1)).below hb (Nat.le_refl _)
  rw [show D1 + (D0 + D2) = D0 + (D1 + D2) by omega] at g1
  rw [show D2 + (D0 + D1) = D0 + (D1 + D2) by omega] at g2
  refine ⟨D0 + (D1 + D2) + 1, Nat.le_refl _, by unfold maxLen; show 3 ≤ 2 ^ 63 - 1; omega, fun h => (by cases h), fun j hj => ?_⟩
  have hj2 : j < 3 := hj
  match j, hj2 with
  | 0, _ => exact ⟨_, A0, c0, rfl, by simp, by rw [Addr.add_lit]; exact kid_row _ _ _ _ _ hn _ _ _ _ _ _ rfl rfl rfl rfl rfl rfl rfl rfl, g0⟩
  | 1, _ => exact ⟨_, A1, c1, rfl, by simp, by rw [Addr.add_lit]; exact kid_row _ _ _ _ _ hn _ _ _ _ _ _ rfl rfl rfl rfl rfl rfl rfl rfl, g1⟩
  | 2, _ => exact ⟨_, A2, c2, rfl, by simp, by rw [Addr.add_lit]; exact kid_row _ _ _ _ _ hn _ _ _ _ _ _ rfl rfl rfl rfl rfl rfl rfl rfl, g2⟩

theorem in64_of2 {n : Int} (h1 : -9223372036854775808 ≤ n) (h2 : n ≤ 9223372036854775807) : in64 n := ⟨h1, h2⟩
theorem okV_int {n : Int} (h : in64 n) : okV (vInt n) := ⟨in64_of2 (by show (-9223372036854775808 : Int) ≤ 1; decide) (by show (1 : Int) ≤ 9223372036854775807; decide), h, by show (0 : Nat) < 18446744073709551616; decide⟩
def kOne0 : Cse := ⟨⟨#[107]⟩, ⟨#[99]⟩, 0, [vInt 0], [], false, false, 0⟩
def kOne1 : Cse := ⟨⟨#[107]⟩, ⟨#[99]⟩, 1, [vInt 0], [], false, false, 1⟩
def kOne2 : Cse := ⟨⟨#[107]⟩, ⟨#[99]⟩, 1, [vInt 0], [2], false, false, 2⟩
theorem new_bad : newK ctOne ⟨#[]⟩ = (zK, 50) := by
  unfold newK
  rw [if_pos one_right, if_neg (show ¬ nameB ⟨#[]⟩ = true by decide)]
theorem new_one : newK ctOne ⟨#[107]⟩ = (kOne0, 0) := by
  unfold newK
  rw [if_pos one_right, if_pos (name_one 107)]
  rfl
theorem right0 : rightK ctOne kOne0 = true := by
  have h := (new_right (c := ctOne) (id := ⟨#[107]⟩) (by rw [new_one])).1
  rwa [new_one] at h
theorem place_one (nm : ByteArray) : placeN nm [nm] 0 = 0 := by
  unfold placeN
  rw [if_pos (beq_self_eq_true _)]
  rfl
theorem evK_con (c : Ctr) (k : Cse) (v : Vl) (hg : goodV v = true) (h4 : v.k ≠ 4) (hf : fitX (c.fs.map Fld.f) k.vals = true) : evK c k (conX v) = (v, 0) := by
  unfold evK evalP
  rw [check_con v _ hg, if_neg (fun h => h rfl), hf, if_pos rfl, ev_con]
  unfold endV setV
  rw [if_pos rfl, if_neg h4]
theorem do_of {c : Ctr} {k n : Cse} {d : Int} {nm : ByteArray} {v : Vl} {org e : Int} (hr : rightK c k = true) (h3 : 3 ≤ d) (h9 : d ≤ 9) (h0 : 0 ≤ org) (h4 : org ≤ 3) (hs : k.steps ≠ 1099511627776) (h : stepK c k d nm v (evK c k) org = (n, e)) : doK c k d nm v org = countK (n, e) k := by
  unfold doK
  rw [if_neg (by rintro (h | h | h | h | h) <;> first | omega | (rw [hr] at h; cases h)), if_neg hs, h]
theorem fit_one : fitX (ctOne.fs.map Fld.f) kOne0.vals = true := fitK_fitX (((rightK_iff _ _).1 right0).vn) (((rightK_iff _ _).1 right0).vf)
theorem do_1 (v : Vl) : doK ctOne kOne0 5 ⟨#[109]⟩ v 0 = (kOne1, 0) := by
  have hp : placeN ⟨#[109]⟩ (ctOne.ms.map Mv.name) 0 = 0 := place_one _
  have hy : mayK ctOne kOne0 mvYes (evK ctOne kOne0) 0 = 0 := by
    unfold mayK
    rw [if_neg (show ¬ mvYes.frm ≠ kOne0.stage by decide), if_neg (show ¬ (0 ≤ mvYes.org ∧ mvYes.org ≠ 0) by decide), if_neg (show ¬ ((kOne0.ends.length : Int) < (stgAt ctOne kOne0.stage).need) by decide)]
    rw [show evK ctOne kOne0 mvYes.guard = (vTruth true, 0) from evK_con _ _ _ (good_truth true) (by decide) fit_one]
    rfl
  have h := do_of (c := ctOne) (k := kOne0) (d := 5) (nm := ⟨#[109]⟩) (v := v) (org := 0) (n := { kOne0 with stage := 1 }) (e := 0) right0 (by decide) (by decide) (by decide) (by decide) (by decide) (by
    unfold stepK
    rw [if_neg (show ¬ barK kOne0 5 ≠ 0 by decide), if_neg (show ¬ (5 : Int) = 3 by decide), if_neg (show ¬ (5 : Int) = 4 by decide), if_pos rfl]
    rw [advK_at (m := mvYes) (by rw [hp]; decide) (by rw [hp]; rfl), if_neg (fun h => h hy)]
    rfl)
  rw [h]
  rfl
theorem right1 : rightK ctOne kOne1 = true := by
  have h := do_right ctOne kOne0 5 ⟨#[109]⟩ vZero 0 right0
  rwa [do_1] at h
theorem do_2 (nm : ByteArray) (v : Vl) : doK ctOne kOne1 4 nm v 2 = (kOne2, 0) := by
  rw [do_of (c := ctOne) (k := kOne1) (d := 4) (nm := nm) (v := v) (org := 2) (n := { kOne1 with ends := [2] }) (e := 0) right1 (by decide) (by decide) (by decide) (by decide) (by decide) rfl]
  rfl
theorem right2 : rightK ctOne kOne2 = true := by
  have h := do_right ctOne kOne1 4 ⟨#[]⟩ vZero 2 right1
  rwa [do_2] at h
theorem do_3 (nm : ByteArray) (v : Vl) : doK ctOne kOne2 4 nm v 2 = (kOne2, 82) := by
  rw [do_of (c := ctOne) (k := kOne2) (d := 4) (nm := nm) (v := v) (org := 2) (n := kOne2) (e := 82) right2 (by decide) (by decide) (by decide) (by decide) (by decide) rfl]
  rfl
theorem okK_one0 : okK kOne0 := ⟨fun v hv => by rw [List.mem_singleton.1 hv]; exact okV_int (in64_of2 (by decide) (by decide)), in64_of2 (by decide) (by decide), fun o ho => (by cases ho), in64_of2 (by decide) (by decide)⟩
theorem okK_one1 : okK kOne1 := ⟨fun v hv => by rw [List.mem_singleton.1 hv]; exact okV_int (in64_of2 (by decide) (by decide)), in64_of2 (by decide) (by decide), fun o ho => (by cases ho), in64_of2 (by decide) (by decide)⟩
theorem okK_one2 : okK kOne2 := ⟨fun v hv => by rw [List.mem_singleton.1 hv]; exact okV_int (in64_of2 (by decide) (by decide)), in64_of2 (by decide) (by decide), fun o ho => by rw [List.mem_singleton.1 ho]; exact in64_of2 (by decide) (by decide), in64_of2 (by decide) (by decide)⟩

structure GoodK (c : Ctr) (k : Cse) : Prop where
  r : rightK c k = true
  v : ∀ v ∈ k.vals, okV v
theorem orgsR_low : ∀ (a : Int) (l : List Int), orgsR a l = true → ∀ o ∈ l, a < o ∧ o ≤ 3
  | a, [], _ => fun o h => by cases h
  | a, x :: l, h => fun o ho => by
    rw [orgsR] at h
    simp only [Bool.and_eq_true, decide_eq_true_eq] at h
    rcases List.mem_cons.1 ho with rfl | ho
    · omega
    · have := orgsR_low x l h.2 o ho; omega
theorem orgs_low {c : Ctr} (h : checkC c = 0) (i : Int) : ∀ o ∈ (stgAt c i).orgs, 0 ≤ o ∧ o ≤ 3 := by
  obtain ⟨-, -, h3, -⟩ := check_parts h
  unfold stagesR at h3
  simp only [Bool.and_eq_true, List.all_eq_true] at h3
  unfold stgAt
  cases hx : c.ss[i.toNat]? with
  | none => exact fun o ho => absurd ho (by simp [zS])
  | some s =>
    obtain ⟨hlt, hs⟩ := List.getElem?_eq_some_iff.1 hx
    have h4 := h3.2 s (hs ▸ List.getElem_mem hlt)
    unfold stageR at h4
    simp only [Bool.and_eq_true] at h4
    intro o ho
    have := orgsR_low (-1) s.orgs h4.1.2 o ho
    omega
theorem endsR_short {orgs : List Int} (ho : ∀ o ∈ orgs, o ≤ 3) : ∀ (a : Int) (l : List Int), endsR orgs a l = true → (l.length : Int) ≤ 3 - a ∨ l = []
  | a, [], _ => .inr rfl
  | a, o :: l, h => by
    have h1 := endsR_lt h o (List.mem_cons_self ..)
    have h2 := ho o h1.2
    rw [endsR] at h
    simp only [Bool.and_eq_true] at h
    rcases endsR_short ho o l h.2 with h3 | rfl
    · left; simp only [List.length_cons]; omega
    · left; simp only [List.length_cons, List.length_nil]; omega
theorem GoodK.ok {c : Ctr} {k : Cse} (h : GoodK c k) : okK k ∧ k.vals.length ≤ 1000 ∧ k.ends.length ≤ 1000 := by
  obtain ⟨hr, hv⟩ := h
  obtain ⟨ck, nm, ct, s0, s1, vn, vf, en, sc, t0, t1⟩ := (rightK_iff c k).1 hr
  obtain ⟨-, h2, h3, -⟩ := check_parts ck
  have hfs : (c.fs.length : Int) ≤ 6 := by
    unfold fieldsR at h2
    simp only [Bool.and_eq_true, decide_eq_true_eq] at h2
    exact h2.1.1
  have hss : (c.ss.length : Int) ≤ 6 := by
    unfold stagesR at h3
    simp only [Bool.and_eq_true, decide_eq_true_eq] at h3
    exact h3.1.1.2
  have hol := orgs_low ck k.stage
  refine ⟨⟨hv, in64_of2 (by omega) (by omega), fun o ho => ?_, in64_of2 (by omega) (by omega)⟩, by omega, ?_⟩
  · have h4 := endsR_lt en o ho
    have h5 := hol o h4.2
    exact in64_of2 (by omega) (by omega)
  · rcases endsR_short (fun o h => (hol o h).2) (-1) k.ends en with h | h
    · omega
    · rw [h]; decide



theorem orgsR_mem : ∀ (l : List Int) (a : Int), orgsR a l = true → ∀ o ∈ l, a < o ∧ o ≤ 3
  | [], _, _ => fun o h => by cases h
  | x :: l, a, h => fun o ho => by
    rw [orgsR] at h
    simp only [Bool.and_eq_true, decide_eq_true_eq] at h
    obtain ⟨⟨h1, h2⟩, h3⟩ := h
    rcases List.mem_cons.1 ho with rfl | ho
    · omega
    · have := orgsR_mem l x h3 o ho
      omega
theorem stage_orgs {c : Ctr} (h : checkC c = 0) {j : Nat} (hj : j < c.ss.length) : ∀ o ∈ (stgAt c (j : Int)).orgs, 0 ≤ o ∧ o ≤ 3 := by
  obtain ⟨-, -, h3, -⟩ := check_parts h
  unfold stagesR at h3
  simp only [Bool.and_eq_true] at h3
  have h4 := List.all_eq_true.1 h3.2 c.ss[j] (List.getElem_mem hj)
  unfold stageR at h4
  simp only [Bool.and_eq_true] at h4
  have hs : stgAt c (j : Int) = c.ss[j] := by
    unfold stgAt
    rw [Int.toNat_natCast, List.getElem?_eq_getElem hj]
    rfl
  rw [hs]
  intro o ho
  have := orgsR_mem _ _ h4.1.2 o ho
  omega
theorem endsR_len (orgs : List Int) (ho : ∀ o ∈ orgs, 0 ≤ o ∧ o ≤ 3) : ∀ (l : List Int) (a : Int), endsR orgs a l = true → -1 ≤ a → a ≤ 3 → (l.length : Int) + a ≤ 3
  | [], a, _, _, h => by simpa using h
  | x :: l, a, h, h1, h2 => by
    rw [endsR] at h
    simp only [Bool.and_eq_true, Bool.not_eq_true', decide_eq_false_iff_not, memI_iff] at h
    obtain ⟨⟨h3, h4⟩, h5⟩ := h
    have h6 := ho x h4
    have := endsR_len orgs ho l x h5 (by omega) (by omega)
    rw [List.length_cons]
    omega
def prevE (l : List Int) (j : Nat) : Int := if j = 0 then -1 else (l[j - 1]?).getD 0
theorem prevE_zero (l : List Int) : prevE l 0 = -1 := rfl
theorem prevE_at (l : List Int) {j : Nat} (h0 : 0 < j) (h : j - 1 < l.length) : prevE l j = l[j - 1] := by
  unfold prevE
  rw [if_neg (by omega), List.getElem?_eq_getElem h]
  rfl
theorem endsR_drop (orgs l : List Int) {j : Nat} (h : j < l.length) : endsR orgs (prevE l j) (l.drop j) = ((!decide (l[j] ≤ prevE l j) && memI l[j] orgs) && endsR orgs (prevE l (j + 1)) (l.drop (j + 1))) := by
  rw [List.drop_eq_getElem_cons h, endsR, prevE_at l (Nat.succ_pos j) (by simpa using h)]
  rfl
theorem right_no {c : Ctr} {k : Cse} {R : Bool} (h : rightK c k = R) (hn : RtK c k → False) : R = false := by
  rw [← h, Bool.eq_false_iff]
  exact fun e => hn ((rightK_iff c k).1 e)
theorem right_few {c : Ctr} {k : Cse} (h : RtK c k) : k.ends.length ≤ 4 := by
  have h0 := h.s0
  have h1 := h.s1
  have h2 := stage_orgs h.ck (j := k.stage.toNat) (by omega)
  rw [Int.toNat_of_nonneg h0] at h2
  have := endsR_len _ h2 k.ends (-1) h.en (by omega) (by omega)
  omega
theorem right_rest {c : Ctr} {k : Cse} (h1 : checkC c = 0) (h2 : nameB k.id = true) (h3 : (k.ctr.toList == c.name.toList) = true) (h4 : 0 ≤ k.stage) (h5 : k.stage < (c.ss.length : Int)) (h6 : k.vals.length = c.fs.length) (h7 : ¬ (k.susp = true ∧ k.shut = true)) (h8 : 0 ≤ k.steps) (h9 : k.steps ≤ 1099511627776) :
    rightK c k = (fitK k.vals c.fs && endsR (stgAt c k.stage).orgs (-1) k.ends) := by
  unfold rightK rightF
  have e7 : (k.susp && k.shut) = false := by
    cases hs : k.susp <;> cases ht : k.shut <;> simp [hs, ht] at h7 ⊢
  rw [h1, h2, h3, e7, decide_eq_true h4, decide_eq_true h5, decide_eq_true h8, decide_eq_true h9, h6]
  simp

set_option maxHeartbeats 4000000 in
theorem rIn7_any (l : List Int) (A : Option Addr) (c : Nat) (n : Int) (w : World) (h : Is w (.slice A l.length c) l) : Calls Tryz.prog 50 #[.int .i64 n, .slice A l.length c] w (VMk (.bool (memI n l)) w) := by
  obtain ⟨-, h2, h4⟩ := h.open
  unfold maxLen at h2
  have hlen : l.length ≤ 9223372036854775807 := by omega
  have H := Lib.hid h4
  have hd : ∀ k (hk : k < l.length), memI n (l.drop k) = (l[k] == n || memI n (l.drop (k + 1))) := fun k hk => by
    rw [List.drop_eq_getElem_cons hk]; rfl
  have HD := Lib.hid hd
  have HE := Lib.hid (show memI n (l.drop l.length) = false by rw [List.drop_length]; rfl)
  have HS := Lib.hid (show memI n (l.drop 0) = memI n l from rfl)
  clear h h2 h4 hd
  generalize memI n l = R at *
  go_enter Tryz.func50, Tryz.ntmps50
  go_wp2
  go_loopw [5] (fun i wr => ∃ k : Nat, k ≤ l.length ∧ i = .int .i64 k ∧ memI n (l.drop k) = R ∧ w = wr) (fun i _ => l.length - (intOf i).toNat)
  case atStart => exact ⟨0, Nat.zero_le _, rfl, HS.out, by trivial⟩
  case round =>
    obtain ⟨k, hk, rfl, hr, rfl⟩ := hrel
    by_cases hlt : k < l.length
    case pos =>
      have hltI : (k : Int) < (l.length : Int) := by omega
      obtain ⟨ad, rfl, hbl, q0⟩ := H.out k hlt
      rw [HD.out k hlt] at hr
      have HR := Lib.hid hr
      clear hr
      generalize l[k] = x at *
      rcases hx : (x == n) with _ | _
      · go_wp2
        go_roundw
        case rel => exact ⟨k + 1, by omega, by go_num, by have h := HR.out; rw [hx, Bool.false_or] at h; exact h, by trivial⟩
        case measure => simp [intOf]; omega
      · have hR : R = true := by have h := HR.out; rw [hx, Bool.true_or] at h; exact h.symm
        subst hR
        go_wp2
        go_ret
        exact ⟨rfl, Below.refl _ _⟩
    case neg =>
      obtain rfl : k = l.length := by omega
      have hltI : ¬ (l.length : Int) < (l.length : Int) := by omega
      have hR : R = false := by rw [← hr]; exact HE.out
      subst hR
      clear hr
      go_wp2
      go_ret
      exact ⟨rfl, Below.refl _ _⟩

theorem placeN_eq (nm : ByteArray) : ∀ (l : List ByteArray) (i j : Nat) (hj : j < l.length), placeN nm l i = ((i + j : Nat) : Int) ↔ ((l[j].toList == nm.toList) = true ∧ ∀ (m : Nat) (hm : m < j), ((l[m]'(by omega)).toList == nm.toList) = false)
  | [], _, _, hj => absurd hj (Nat.not_lt_zero _)
  | x :: l, i, 0, hj => by
    unfold placeN
    cases hx : (x.toList == nm.toList) with
    | true => simp [hx]
    | false =>
      rw [if_neg (by decide)]
      have := placeN_ge nm l (i + 1)
      simp only [List.getElem_cons_zero, hx]
      constructor
      · intro h; omega
      · intro h; exact absurd h.1 (by decide)
  | x :: l, i, j + 1, hj => by
    unfold placeN
    have hjl : j < l.length := by simpa using hj
    cases hx : (x.toList == nm.toList) with
    | true =>
      rw [if_pos rfl]
      constructor
      · intro h; omega
      · intro h
        have := h.2 0 (by omega)
        simp only [List.getElem_cons_zero, hx] at this
        exact absurd this (by decide)
    | false =>
      rw [if_neg (by decide)]
      have ih := placeN_eq nm l (i + 1) j hjl
      have e : ((i + (j + 1) : Nat) : Int) = ((i + 1 + j : Nat) : Int) := by omega
      rw [e, ih]
      simp only [List.getElem_cons_succ]
      constructor
      · rintro ⟨h1, h2⟩
        refine ⟨h1, fun m hm => ?_⟩
        cases m with
        | zero => simpa using hx
        | succ m => simpa using h2 m (by omega)
      · rintro ⟨h1, h2⟩
        refine ⟨h1, fun m hm => ?_⟩
        have := h2 (m + 1) (by omega)
        simpa using this
theorem onceN_apart (l : List ByteArray) : onceN l = true ↔ ∀ (j : Nat) (hj : j < l.length) (m : Nat) (hm : m < j), ((l[m]'(by omega)).toList == l[j].toList) = false := by
  rw [onceN_iff]
  constructor
  · intro h j hj
    have := h j hj
    have e : ((j : Nat) : Int) = ((0 + j : Nat) : Int) := by omega
    rw [e, placeN_eq _ _ _ _ hj] at this
    exact this.2
  · intro h j hj
    have e : ((j : Nat) : Int) = ((0 + j : Nat) : Int) := by omega
    rw [e, placeN_eq _ _ _ _ hj]
    exact ⟨by simp, h j hj⟩
theorem enum_iff (f : Fld) : enumR f = true ↔ f.en.length ≤ 4 ∧ (f.en.length = 0 ∨ f.f.kind = 3) ∧ ∀ (j : Nat) (hj : j < f.en.length), f.en[j].size ≤ 32 ∧ ∀ (m : Nat) (hm : m < j), ((f.en[m]'(by omega)).toList == f.en[j].toList) = false := by
  unfold enumR
  rw [Bool.or_eq_true, List.isEmpty_iff, Bool.and_eq_true, Bool.and_eq_true, Bool.and_eq_true, beq_iff_eq, decide_eq_true_eq, onceN_apart, List.all_eq_true]
  constructor
  · rintro (h | ⟨⟨⟨h1, h2⟩, h3⟩, h4⟩)
    · have h0 : f.en.length = 0 := by rw [h]; rfl
      exact ⟨by omega, .inl h0, fun j hj => absurd hj (by omega)⟩
    · refine ⟨by omega, .inr h1, fun j hj => ⟨?_, h3 j hj⟩⟩
      have := h4 _ (List.getElem_mem hj)
      rw [decide_eq_true_eq] at this
      omega
  · rintro ⟨h1, h2 | h2, h3⟩
    · exact .inl (List.eq_nil_of_length_eq_zero h2)
    · refine .inr ⟨⟨⟨h2, by omega⟩, fun j hj => (h3 j hj).2⟩, fun s hs => ?_⟩
      obtain ⟨j, hj, rfl⟩ := List.getElem_of_mem hs
      rw [decide_eq_true_eq]
      have := (h3 j hj).1
      omega
theorem field_kind {f : Fld} (h : fieldR f = true) : 1 ≤ f.f.kind ∧ f.f.kind ≤ 4 := by
  unfold fieldR at h
  simp only [Bool.and_eq_true, beq_iff_eq] at h
  obtain ⟨h1, h2⟩ := fits_good h.2
  unfold goodV at h1
  simp only [Bool.and_eq_true, decide_eq_true_eq] at h1
  rw [← h2]
  exact ⟨h1.1.1.1.1.1.1, h1.1.1.1.1.1.2⟩
def bothF {α : Type} (g : α → Int) (P : α → Bool) : List α → Nat → Bool
  | [], _ => true
  | x :: l, i => ((g x == (i : Int)) && P x) && bothF g P l (i + 1)
theorem bothF_eq {α : Type} (g : α → Int) (P : α → Bool) : ∀ (l : List α) (i : Nat), bothF g P l i = (onceF g l i && l.all P)
  | [], _ => rfl
  | x :: l, i => by
    rw [bothF, onceF, List.all_cons, bothF_eq g P l (i + 1)]
    cases (g x == (i : Int)) <;> cases P x <;> cases onceF g l (i + 1) <;> rfl
theorem fields_both (c : Ctr) : fieldsR c = (decide ((c.fs.length : Int) ≤ 6) && bothF (fun x => placeN x.f.name (c.fs.map fun x => x.f.name) 0) fieldR c.fs 0) := by
  unfold fieldsR
  rw [bothF_eq, onceN_of, Bool.and_assoc]
theorem stages_both (c : Ctr) : stagesR c = ((decide (1 ≤ (c.ss.length : Int)) && decide ((c.ss.length : Int) ≤ 6)) && bothF (fun x => placeN x.name (c.ss.map fun x => x.name) 0) stageR c.ss 0) := by
  unfold stagesR
  rw [bothF_eq, onceN_of, Bool.and_assoc]
theorem moves_both (c : Ctr) : movesR c = (decide ((c.ms.length : Int) ≤ 8) && bothF (fun x => placeN x.name (c.ms.map fun x => x.name) 0) (moveR c) c.ms 0) := by
  unfold movesR
  rw [bothF_eq, onceN_of, Bool.and_assoc]

theorem rName_any (s : ByteArray) (w : World) : Calls Tryz.prog 40 #[.string s] w (VGv (.bool (nameB s)) w) := by
  unfold nameB
  by_cases h1 : (1 : Int) ≤ (s.size : Int)
  · by_cases h2 : (s.size : Int) ≤ 16
    · go_enter Tryz.func40, Tryz.ntmps40
      go_wp2
      go_ret
      exact ⟨ret_bool (by simp; omega), rfl⟩
    · go_enter Tryz.func40, Tryz.ntmps40
      go_wp2
      go_ret
      exact ⟨ret_bool (by simp; omega), rfl⟩
  · go_enter Tryz.func40, Tryz.ntmps40
    go_wp2
    go_ret
    exact ⟨ret_bool (by simp; omega), rfl⟩
theorem tell_yes {R : Bool} {P : Prop} (h : R = true ↔ P) : P → Ending.returned (.bool true) = .returned (.bool R) := fun p => by rw [h.2 p]
theorem tell_no {R : Bool} {P : Prop} (h : R = true ↔ P) : ¬ P → Ending.returned (.bool false) = .returned (.bool R) := fun p => by
  cases R
  · rfl
  · exact absurd (h.1 rfl) p
set_option maxHeartbeats 4000000 in
theorem renum_any (x : Fld) (A : Option Addr) (c : Nat) (w : World) (h : Ss w (.slice A x.en.length c) x.en) : Calls Tryz.prog 82 #[agFl x A c] w (VMk (.bool (enumR x)) w) := by
  obtain ⟨A', c', he, hm, hx⟩ := h.open
  injection he with e1 e2 e3
  subst e1 e3
  unfold maxLen at hm
  have HX := Lib.hid hx
  have HY := Lib.hid (tell_yes (enum_iff x))
  have HZ := Lib.hid (tell_no (enum_iff x))
  have HB0 := Lib.hid (alloc1 w (bxFl x A c))
  have HK := Lib.hid (fun W (hb : Below (w.alloc (bxFl x A c)).heap.size (w.alloc (bxFl x A c)) W) => (Fdp_new w x A c).below hb (al_lt w _))
  clear hx h e2
  generalize enumR x = R at *
  have q0 := HK.out _ (Below.refl _ _)
  obtain ⟨-, q1, q2, -⟩ := q0
  have HBR := Lib.hid (Below.refl (w.alloc (bxFl x A c)).heap.size (w.alloc (bxFl x A c)))
  go_enter Tryz.func82, Tryz.ntmps82
  go_upto_region 1 with fail
  generalize hw0 : w.alloc (bxFl x A c) = w0 at *
  clear hw0
  by_cases h4 : 4 < x.en.length
  · have hi : (4 : Int) < (x.en.length : Int) := by omega
    go_wp2
    go_ret
    exact ⟨HZ.out (by rintro ⟨h, -⟩; omega), HB0.out⟩
  have hi : ¬ (4 : Int) < (x.en.length : Int) := by omega
  by_cases hbad : 0 < x.en.length ∧ x.f.kind ≠ 3
  · have hz : (0 : Int) < (x.en.length : Int) := by omega
    have hk : (x.f.kind != 3) = true := by simpa using hbad.2
    have HBAD := Lib.hid hbad
    clear hbad
    go_wp2
    go_ret
    exact ⟨HZ.out (by rintro ⟨-, h, -⟩; have := HBAD.out; omega), HB0.out⟩
  have HFI := Lib.hid (show x.en.length = 0 ∨ x.f.kind = 3 by omega)
  have hq : ((0 : Int) < (x.en.length : Int) ∧ (x.f.kind != 3) = false) ∨ ¬ (0 : Int) < (x.en.length : Int) := by
    by_cases hz : 0 < x.en.length
    · refine .inl ⟨by omega, ?_⟩
      have : x.f.kind = 3 := Classical.byContradiction fun h => hbad ⟨hz, h⟩
      rw [this]; rfl
    · exact .inr (by omega)
  have H4 := Lib.hid h4
  clear hbad h4
  rcases hq with ⟨hq, hk⟩ | hq
  · go_wp2
    go_loopw [3] (fun i wr => ∃ k : Nat, k ≤ x.en.length ∧ i = .int .i64 k ∧ (∀ (j : Nat) (hj : j < x.en.length), j < k → x.en[j].size ≤ 32 ∧ ∀ (m : Nat) (hm : m < j), ((x.en[m]'(by omega)).toList == x.en[j].toList) = false) ∧ Below w0.heap.size w0 wr) (fun i _ => x.en.length - (intOf i).toNat)
    case atStart => exact ⟨0, Nat.zero_le _, rfl, fun j hj h => absurd h (Nat.not_lt_zero _), HBR.out⟩
    case round =>
      clear q1 q2
      obtain ⟨k, hkl, rfl, hdone, hb⟩ := hrel
      obtain ⟨-, q1, q2, -⟩ := HK.out _ hb
      have HDONE := Lib.hid hdone
      have HB := Lib.hid hb
      clear hdone hb
      by_cases hlt : k < x.en.length
      · have hltI : (k : Int) < (x.en.length : Int) := by omega
        obtain ⟨ad, rfl, hbl, hcell⟩ := HX.out k hlt
        have hcellk := (HB.out.cell (p := ad.add k) (by rw [block_add]; have := HB0.out.size; omega)).trans ((HB0.out.cell (p := ad.add k) (by rw [block_add]; exact hbl)).trans hcell)
        clear hcell
        by_cases h32 : 32 < x.en[k].size
        · have h32I : (32 : Int) < (x.en[k].size : Int) := by omega
          go_wp2
          go_ret
          exact ⟨HZ.out (by rintro ⟨-, -, h⟩; have := (h k hlt).1; omega), bel2 HB0.out HB.out⟩
        have h32I : ¬ (32 : Int) < (x.en[k].size : Int) := by omega
        have H32 := Lib.hid h32
        clear h32
        go_wp2
        go_loopw [4] (fun i wr2 => ∃ m : Nat, m ≤ k ∧ i = .int .i64 m ∧ (∀ (m' : Nat) (hm : m' < x.en.length), m' < m → (x.en[m'].toList == x.en[k].toList) = false) ∧ Below w0.heap.size w0 wr2) (fun i _ => k - (intOf i).toNat)
        case atStart => exact ⟨0, Nat.zero_le _, rfl, fun j hj h => absurd h (Nat.not_lt_zero _), HB.out⟩
        case round =>
          clear q1 q2 hcellk
          obtain ⟨m, hmk, rfl, hd2, hb2⟩ := hrel
          obtain ⟨-, q1, q2, -⟩ := HK.out _ hb2
          have HD2 := Lib.hid hd2
          have HB2 := Lib.hid hb2
          clear hd2 hb2
          have hat : ∀ j (hj : j < x.en.length), _ := fun j hj => (HB2.out.cell (p := ad.add j) (by rw [block_add]; have := HB0.out.size; omega)).trans ((HB0.out.cell (p := ad.add j) (by rw [block_add]; exact hbl)).trans (by obtain ⟨ad2, e, -, h⟩ := HX.out j hj; injection e with e; subst e; exact h))
          have hck := hat k hlt
          by_cases hml : m < k
          · have hmI : (m : Int) < (k : Int) := by omega
            have hmx : m < x.en.length := by omega
            have hmxI : (m : Int) < (x.en.length : Int) := by omega
            have hcm := hat m hmx
            clear hat
            rcases hd : (x.en[k].toList == x.en[m].toList) with _ | _
            · have HD := Lib.hid hd
              go_wp2
              go_quiet (fail)
              go_wp2
              go_roundw
              case rel => exact ⟨m + 1, by omega, by go_num, fun m' hm' hlt' => by
                by_cases e : m' < m
                · exact HD2.out m' hm' e
                · obtain rfl : m' = m := by omega
                  rw [BEq.comm]; exact HD.out, below_drewN HB2.out _⟩
              case measure => simp [intOf]; omega
            · have HD := Lib.hid hd
              go_wp2
              go_quiet (fail)
              go_wp2
              go_ret
              exact ⟨HZ.out (by rintro ⟨-, -, h⟩; have h2 := (h k hlt).2 m hml; rw [BEq.comm, HD.out] at h2; cases h2), bel2 HB0.out (below_drewN HB2.out _)⟩
          · obtain rfl : m = k := by omega
            have hmI : ¬ (m : Int) < (m : Int) := by omega
            clear hat
            go_wp2
            go_roundw
            case rel => exact ⟨m + 1, by omega, by go_num, fun j hj hjk => by
              by_cases e : j < m
              · exact HDONE.out j hj e
              · obtain rfl : j = m := by omega
                exact ⟨by have := H32.out; omega, fun m' hm' => HD2.out m' (by omega) hm'⟩, HB2.out⟩
            case measure => simp [intOf]; omega
      · obtain rfl : k = x.en.length := by omega
        have hltI : ¬ (x.en.length : Int) < (x.en.length : Int) := by omega
        go_wp2
        go_ret
        exact ⟨HY.out ⟨by have := H4.out; omega, HFI.out, fun j hj => HDONE.out j hj hj⟩, bel2 HB0.out HB.out⟩
  · have hz0 : x.en.length = 0 := by omega
    have HZ0 := Lib.hid hz0
    clear hz0
    go_wp2
    go_loopw [3] (fun i wr => i = .int .i64 0 ∧ Below w0.heap.size w0 wr) (fun _ _ => 0)
    case atStart => exact ⟨rfl, HBR.out⟩
    case round =>
      clear q1 q2
      obtain ⟨rfl, hb⟩ := hrel
      obtain ⟨-, q1, q2, -⟩ := HK.out _ hb
      have HB := Lib.hid hb
      clear hb
      have hltI : ¬ (0 : Int) < (x.en.length : Int) := by have := HZ0.out; omega
      go_wp2
      go_ret
      exact ⟨HY.out ⟨by have := H4.out; omega, HFI.out, fun j hj => absurd hj (by have := HZ0.out; omega)⟩, bel2 HB0.out HB.out⟩

def getN {α : Type} (G : List UInt8 → Except Int (α × List UInt8)) : Nat → List UInt8 → Except Int (List α × List UInt8)
  | 0, r => .ok ([], r)
  | n + 1, r => match G r with
    | .error e => .error e
    | .ok (x, r1) => match getN G n r1 with
      | .error e => .error e
      | .ok (l, r2) => .ok (x :: l, r2)
/-! there and back -/



/-! lists -/

def preN {α : Type} (l : List α) (X : Except Int (List α × List UInt8)) : Except Int (List α × List UInt8) := match X with
  | .error e => .error e
  | .ok (m, r) => .ok (l ++ m, r)
theorem preN_ok {α : Type} {G : List UInt8 → Except Int (α × List UInt8)} {c : Nat} {r r1 : List UInt8} {x : α} (l : List α) (h : G r = .ok (x, r1)) : preN l (getN G (c + 1) r) = preN (l ++ [x]) (getN G c r1) := by
  rw [getN, h]
  dsimp only
  rcases getN G c r1 with e | ⟨m, r2⟩
  · rfl
  · simp [preN]
theorem preN_end {α : Type} (G : List UInt8 → Except Int (α × List UInt8)) (r : List UInt8) (l : List α) : preN l (getN G 0 r) = .ok (l, r) := by
  rw [getN]
  simp [preN]

def ElP {α β : Type} (bad : Value → Prop) (g : Nat) (vl : β → Value) (val : β → α) (ok : (Nat → Prop) → World → β → Prop) (X : Except Int (α × List UInt8)) (w : World) (e : Ending) (w' : World) : Prop := match X with
  | .error er => ∃ u, bad u ∧ e = .returned (.tuple #[u, .int .i64 er]) ∧ (∃ r' e', RdR w' g r' e') ∧ Only g w w'
  | .ok x => ∃ q, val q = x.1 ∧ e = .returned (.tuple #[vl q, .int .i64 0]) ∧ ok (fun b => w.heap.size ≤ b) w' q ∧ RdR w' g x.2 0 ∧ Only g w w'
def LsP {α β : Type} (g : Nat) (t : TypeId) (K : Nat) (cells : β → List Value) (val : β → α) (ok : (Nat → Prop) → World → β → Prop) (X : Except Int (List α × List UInt8)) (w : World) (e : Ending) (w' : World) : Prop := match X with
  | .error er => e = .returned (.tuple #[.slice none 0 0, .int .i64 er]) ∧ (∃ r' e', RdR w' g r' e') ∧ Only g w w'
  | .ok x => ∃ (qs : List β) (v : Value), e = .returned (.tuple #[v, .int .i64 0]) ∧ qs.map val = x.1 ∧ w'.ownsRow w.heap.size t K v qs.length (qs.flatMap cells) ∧ (∀ q ∈ qs, ok (fun b => w.heap.size ≤ b ∧ v.ownBlock ≠ some b) w' q) ∧ RdR w' g x.2 0 ∧ Only g w w'
structure LsI {α β : Type} (G : List UInt8 → Except Int (α × List UInt8)) (w : World) (g : Nat) (t : TypeId) (K : Nat) (cells : β → List Value) (val : β → α) (ok : (Nat → Prop) → World → β → Prop) (c : Nat) (L : Except Int (List α × List UInt8)) (wr : World) (k : Nat) (qs : List β) (rk : List UInt8) (row : Value) : Prop where
  cnt : qs.length = k
  pre : preN (qs.map val) (getN G (c - k) rk) = L
  len : rk.length ≤ 1000000000000
  rd : RdR wr g rk 0
  own : wr.ownsRow w.heap.size t K row k (qs.flatMap cells)
  els : ∀ q ∈ qs, ok (fun b => w.heap.size ≤ b ∧ row.ownBlock ≠ some b) wr q
  on : Only g w wr
theorem LsI.next {α β : Type} {G : List UInt8 → Except Int (α × List UInt8)} {w : World} {g : Nat} {t : TypeId} {K : Nat} {cells : β → List Value} {val : β → α} {ok : (Nat → Prop) → World → β → Prop} {c : Nat} {L : Except Int (List α × List UInt8)} {wr w2 w3 w4 : World} {k : Nat} {qs : List β} {rk r1 : List UInt8} {row row' : Value} {q : β}
    (hmv : ∀ (S T : Nat → Prop) (w w' : World) (q : β), Kept S T w w' → w.heap.size ≤ w'.heap.size → ok S w q → ok T w' q) (ht : t ≠ 5) (hgw : g < w.heap.size)
    (h : LsI G w g t K cells val ok c L wr k qs rk row) (hk : k < c) (hx : G rk = .ok (val q, r1)) (hlen : r1.length ≤ rk.length)
    (hel : ok (fun b => wr.heap.size ≤ b) w2 q) (hrd : RdR w2 g r1 0) (hon : Only g wr w2) (hal : Below w2.heap.size w2 w3)
    (hown : w4.ownsRow w.heap.size t K row' (k + 1) (qs.flatMap cells ++ cells q)) (hgr : w3.grownBy w4 row.ownBlock) (hrow : row'.ownBlock = row.ownBlock ∨ row'.ownBlock = some w3.heap.size) :
    LsI G w g t K cells val ok c L w4 (k + 1) (qs ++ [q]) r1 row' := by
  have hz2 := hon.size
  have hz3 := hal.size
  have hz4 := hgr.size
  have hz0 := h.on.size
  have hrow0 := h.own.lt
  have hkeep : ∀ b, b < w2.heap.size → row.ownBlock ≠ some b → w4.heap[b]? = w2.heap[b]? := fun b h1 h3 => by
    rw [hgr.block b (by omega) (fun e => h3 e.symm)]
    exact hal.block b h1
  have hlow : ∀ b, b < w.heap.size → row.ownBlock ≠ some b := fun b hb e => by have := (hrow0 b e).1; omega
  have hrowT : ∀ (b : Nat) (cs : Array Value) (fr : Nat × Nat), w2.heap[b]? = some (Obj.cells cs 5 fr) → row.ownBlock ≠ some b := fun b cs fr hb e => by
    rcases h.own.2 with ⟨rfl, -⟩ | ⟨g', cap, cur, rfl, hbase, hg', -⟩
    · cases e
    · injection e with e
      have e : g' = b := e
      subst e
      have h5 := (hon.block g' (Array.getElem?_eq_some_iff.1 hg').1 (by intro e; injection e with e; omega)).trans hg'
      exact other_block hb h5 (fun e => ht e.symm) rfl
  refine ⟨by rw [List.length_append, h.cnt]; rfl, ?_, by have := h.len; omega, ?_, ?_, ?_, ⟨?_, ?_, ?_, by omega, fun m hm m1 => ?_⟩⟩
  · rw [List.map_append, List.map_cons, List.map_nil, ← h.pre, show c - k = c - (k + 1) + 1 by omega]
    exact (preN_ok _ hx).symm
  · exact hrd.keep (by omega) (hkeep g (by omega) (hlow g hgw)) fun b cs fr hb => hkeep b (Array.getElem?_eq_some_iff.1 hb).1 (hrowT b cs fr hb)
  · rw [List.flatMap_append, List.flatMap_cons, List.flatMap_nil, List.append_nil]
    exact hown
  · intro x hxq
    rcases List.mem_append.1 hxq with hxq | hxq
    · refine hmv _ _ _ _ _ (fun b hb hl => ?_) (by omega) (h.els x hxq)
      refine ⟨(hkeep b (by omega) hb.2).trans (hon.block b hl (by intro e; injection e with e; omega)), hb.1, ?_⟩
      rcases hrow with e | e
      · rw [e]; exact hb.2
      · rw [e]; intro e2; injection e2 with e2; omega
    · rw [List.mem_singleton.1 hxq]
      refine hmv _ _ _ _ _ (fun b hb hl => ?_) (by omega) hel
      have hne : row.ownBlock ≠ some b := fun e => by have := (hrow0 b e).2; omega
      refine ⟨hkeep b hl hne, by omega, ?_⟩
      rcases hrow with e | e
      · rw [e]; exact hne
      · rw [e]; intro e2; injection e2 with e2; omega
  · exact hgr.os.trans (hal.os.trans (hon.os.trans h.on.os))
  · exact hgr.tape.trans (hal.tape.trans (hon.tape.trans h.on.tape))
  · exact hgr.output.trans (hal.output.trans (hon.output.trans h.on.output))
  · exact (hkeep m (by omega) (hlow m hm)).trans ((hon.block m (by omega) m1).trans (h.on.block m hm m1))
theorem LsI.end {α β : Type} {G : List UInt8 → Except Int (α × List UInt8)} {w : World} {g : Nat} {t : TypeId} {K : Nat} {cells : β → List Value} {val : β → α} {ok : (Nat → Prop) → World → β → Prop} {c : Nat} {L : Except Int (List α × List UInt8)} {wr : World} {qs : List β} {rk : List UInt8} {row : Value} (h : LsI G w g t K cells val ok c L wr c qs rk row) : LsP g t K cells val ok L w (.returned (.tuple #[row, .int .i64 0])) wr := by
  have hp := h.pre
  rw [Nat.sub_self, preN_end] at hp
  rw [← hp]
  have ho := h.own
  rw [← h.cnt] at ho
  exact ⟨qs, row, rfl, rfl, ho, h.els, h.rd, h.on⟩



def LsR {α : Type} (g : Nat) (N : (Nat → Prop) → World → Option Addr → Nat → List α → Prop) (X : Except Int (List α × List UInt8)) (w : World) (e : Ending) (w' : World) : Prop := match X with
  | .error er => e = .returned (.tuple #[.slice none 0 0, .int .i64 er]) ∧ (∃ r' e', RdR w' g r' e') ∧ Only g w w'
  | .ok x => ∃ A c, e = .returned (.tuple #[.slice A x.1.length c, .int .i64 0]) ∧ N (fun b => w.heap.size ≤ b) w' A c x.1 ∧ RdR w' g x.2 0 ∧ Only g w w'
theorem LsP.r {α β : Type} {g : Nat} {t : TypeId} {K : Nat} {cells : β → List Value} {val : β → α} {ok : (Nat → Prop) → World → β → Prop} {N : (Nat → Prop) → World → Option Addr → Nat → List α → Prop} {X : Except Int (List α × List UInt8)} {w : World} {e : Ending} {w' : World}
    (hN : ∀ (S T : Nat → Prop) (w' : World) (base n : Nat) (v : Value) (qs : List β), w'.ownsRow base t K v n (qs.flatMap cells) → (∀ q ∈ qs, ok S w' q) → (∀ b, S b → T b) → (∀ b, base ≤ b → T b) → ∃ A c, v = .slice A (qs.map val).length c ∧ N T w' A c (qs.map val))
    (h : LsP g t K cells val ok X w e w') : LsR g N X w e w' := by
  rcases X with er | ⟨l, r⟩
  · exact h
  · obtain ⟨qs, v, h1, h2, h3, h4, h5, h6⟩ := h
    obtain ⟨A, c, rfl, hn⟩ := hN _ (fun b => w.heap.size ≤ b) w' _ _ v qs h3 h4 (fun b hb => hb.1) (fun b hb => hb)
    dsimp only at h2
    subst h2
    exact ⟨A, c, h1, hn, h5, h6⟩

theorem belowZ {w w' : World} {b : Nat} {o : Obj} (h : w.heap[b]? = some o) (hb : Below w.heap.size w w') : w'.heap[b]? = some o := (hb.block b (Array.getElem?_eq_some_iff.1 h).1).trans h
theorem heap_ltZ {w : World} {b : Nat} {o : Obj} (h : w.heap[b]? = some o) : b < w.heap.size := (Array.getElem?_eq_some_iff.1 h).1
theorem setZ {w : World} {b : Nat} {cs : Array Value} {t : TypeId} (h : w.heap[b]? = some (.cells cs t (0, 0))) (j : Nat) (u : Value) : (w.setCell ⟨b, j, none⟩ u).heap[b]? = some (.cells (cs.setIfInBounds j u) t (0, 0)) := by
  simp [World.setCell, Array.getElem?_modify, h]
theorem ElP.err {α β : Type} {bad : Value → Prop} {g bz : Nat} {vl : β → Value} {val : β → α} {ok : (Nat → Prop) → World → β → Prop} {er : Int} {w W W' : World} {u : Value} {zs : Array Value} {T : TypeId} {fr : Nat × Nat} (hbad : bad u) (hr : ∃ r' e', RdR W g r' e') (ho : Only g w W) (hz : W.heap[bz]? = some (.cells zs T fr)) (ht : T ≠ 5) (hb : w.heap.size ≤ bz) (hg : g ≠ bz) (hs : Only bz W W') : ElP bad g vl val ok (.error er) w (.returned (.tuple #[u, .int .i64 er])) W' := by
  obtain ⟨r', e', hr⟩ := hr
  exact ⟨u, hbad, rfl, ⟨r', e', hr.offT hs hg hz ht⟩, ho.new hs hb⟩

theorem kName_any (s : ByteArray) (w : World) : Calls Tryz.prog 47 #[.string s] w (VGv (.bool (nameB s)) w) := by
  unfold nameB
  by_cases h1 : (1 : Int) ≤ (s.size : Int)
  · by_cases h2 : (s.size : Int) ≤ 16
    · go_enter Tryz.func47, Tryz.ntmps47
      go_wp2
      go_ret
      exact ⟨ret_bool (by simp; omega), rfl⟩
    · go_enter Tryz.func47, Tryz.ntmps47
      go_wp2
      go_ret
      exact ⟨ret_bool (by simp; omega), rfl⟩
  · go_enter Tryz.func47, Tryz.ntmps47
    go_wp2
    go_ret
    exact ⟨ret_bool (by simp; omega), rfl⟩
theorem memI_take (l : List Int) (n : Int) (k : Nat) (hk : k < l.length) : memI n (l.take (k + 1)) = (memI n (l.take k) || (l[k] == n)) := by
  unfold memI; rw [List.take_succ_eq_append_getElem hk, List.any_append]; simp
theorem memI_at (l : List Int) (n : Int) (k : Nat) (hk : k < l.length) (h : l[k] = n) : memI n l = true := (memI_iff n l).2 (h ▸ List.getElem_mem hk)
def PlaceI (l : List Int) (n : Int) (w : World) (e : Ending) (w' : World) : Prop := ∃ r : Int, e = .returned (.int .i64 r) ∧ decide (0 ≤ r) = memI n l ∧ w = w'
set_option maxHeartbeats 1000000 in
theorem kIndex_any (A : Option Addr) (c : Nat) (l : List Int) (n : Int) (w : World) (hv : Is w (.slice A l.length c) l) : Calls Tryz.prog 201 #[.slice A l.length c, .int .i64 n] w (PlaceI l n w) := by
  obtain ⟨-, hm, hx⟩ := hv.open
  unfold maxLen at hm
  have HX := Lib.hid hx
  clear hx hv
  go_enter Tryz.func201, Tryz.ntmps201
  go_wp2
  go_loop [8] (fun i => ∃ k : Nat, k ≤ l.length ∧ i = .int .i64 k ∧ memI n (l.take k) = false) (fun i => l.length - (intOf i).toNat)
  case atStart => exact ⟨0, Nat.zero_le _, rfl, rfl⟩
  case round =>
    obtain ⟨k, hk, rfl, hno⟩ := hrel
    by_cases hlt : k < l.length
    · have hltI : (k : Int) < (l.length : Int) := by omega
      obtain ⟨ad, rfl, hbl, hcell⟩ := HX.out k hlt
      by_cases heq : l[k] = n
      · have hin : memI n l = true := memI_at l n k hlt heq
        have hb : (n == l[k]) = true := by rw [heq]; simp
        have HI := Lib.hid hin
        clear hin hno heq
        go_wp2
        go_ret
        exact ⟨(k : Int), rfl, by rw [HI.out]; simp, rfl⟩
      · have hnx : memI n (l.take (k + 1)) = false := by rw [memI_take l n k hlt, hno]; simpa using heq
        have hb : (n == l[k]) = false := by simpa using fun h => heq h.symm
        have HN := Lib.hid hnx
        clear hnx hno heq
        go_wp2
        go_round
        case rel => exact ⟨k + 1, by omega, by go_num, HN.out⟩
        case measure => simp [intOf]; omega
    · obtain rfl : k = l.length := by omega
      rw [List.take_length] at hno
      have HN := Lib.hid hno
      clear hno HX
      go_wp2
      go_ret
      exact ⟨-1, rfl, by rw [HN.out]; rfl, rfl⟩
theorem kContains_any (A : Option Addr) (c : Nat) (l : List Int) (n : Int) (w : World) (hv : Is w (.slice A l.length c) l) : Calls Tryz.prog 153 #[.slice A l.length c, .int .i64 n] w (VGv (.bool (memI n l)) w) := by
  have hi : ∀ W, W = w → Calls Tryz.prog 201 #[.slice A l.length c, .int .i64 n] W (PlaceI l n W) := fun W h => by rw [h]; exact kIndex_any A c l n w hv
  clear hv
  go_enter Tryz.func153, Tryz.ntmps153
  go_wp2_with (go_at_call 201; refine (hi _ rfl).mono ?_; rintro e w' ⟨r, rfl, hr, rfl⟩; have HR := Lib.hid hr; clear hr)
  go_ret
  exact ⟨ret_bool HR.out, rfl⟩

/-! values fit fields -/
theorem fitK_drop {vs : List Vl} {fs : List Fld} {k : Nat} (hv : k < vs.length) (hf : k < fs.length) : fitK (vs.drop k) (fs.drop k) = ((fitsV vs[k] fs[k].f.kind fs[k].en == 0) && fitK (vs.drop (k + 1)) (fs.drop (k + 1))) := by
  rw [List.drop_eq_getElem_cons hv, List.drop_eq_getElem_cons hf, fitK]
set_option maxHeartbeats 4000000 in
theorem fitAll_any (VA : Option Addr) (vc : Nat) (vs : List Vl) (FA : Option Addr) (fc : Nat) (fs : List Fld) (w : World) (hv : VlK w VA vc vs) (hf : FldK w FA fc fs) :
    Calls Tryz.prog 90 #[.slice VA vs.length vc, .slice FA fs.length fc] w (VMk (.bool ((vs.length == fs.length) && fitK vs fs)) w) := by
  have hsf := fun (w : World) (a : Addr) (m : Mode) (b : Nat) => run_store Tryz.prog w a (.float .f64 b) m rfl
  by_cases hl : vs.length = fs.length
  case neg =>
    have hb : ((vs.length : Int) != (fs.length : Int)) = true := by simp; omega
    have he : ((vs.length == fs.length) && fitK vs fs) = false := by simp [hl]
    rw [he]
    clear hv hf he hl
    go_enter Tryz.func90, Tryz.ntmps90
    go_wp2
    go_ret
    exact ⟨rfl, Below.refl _ _⟩
  have hb : ((vs.length : Int) != (fs.length : Int)) = false := by simp [hl]
  have he : ((vs.length == fs.length) && fitK vs fs) = fitK vs fs := by simp [hl]
  rw [he]
  have HL := Lib.hid hl
  have hvm : vs.length ≤ 9223372036854775807 := by have h1 := hv.1; have h2 := hv.2.1; unfold maxLen at h2; omega
  have HV := Lib.hid (fun W (hb : Below w.heap.size w W) => hv.below hb (Nat.le_refl _))
  have HF := Lib.hid (fun W (hb : Below w.heap.size w W) => FldK.below hf hb)
  have HVM := Lib.hid hvm
  clear hv hf he hl hvm
  generalize hn : fs.length = n at *
  have HN := Lib.hid hn
  clear hn
  generalize hm : vs.length = m at *
  have HM := Lib.hid hm
  clear hm
  go_enter Tryz.func90, Tryz.ntmps90
  go_wp2
  go_loopw [14] (fun i wr => ∃ k : Nat, k ≤ m ∧ i = .int .i64 k ∧ fitK (vs.drop k) (fs.drop k) = fitK vs fs ∧ Below w.heap.size w wr) (fun i _ => m - (intOf i).toNat)
  case atStart => exact ⟨0, Nat.zero_le _, rfl, rfl, Below.refl _ _⟩
  case round =>
    obtain ⟨k, hk, rfl, hdone, hb0⟩ := hrel
    have HD := Lib.hid hdone
    have HB := Lib.hid hb0
    clear hdone hb0
    by_cases hlt : k < m
    · have hltI : (k : Int) < (m : Int) := by omega
      have hvm := HVM.out
      have hkn : (k : Int) < (n : Int) := by have := HL.out; omega
      have hkv : k < vs.length := by have := HM.out; omega
      have hkf : k < fs.length := by have := HN.out; have := HL.out; omega
      obtain ⟨-, -, -, hvx⟩ := HV.out wr HB.out
      obtain ⟨-, -, -, hfx⟩ := HF.out wr HB.out
      obtain ⟨va, hva, hvb, q0, q1, q2, q3, q4⟩ := hvx k hkv
      subst hva
      obtain ⟨fa, hfa, hfb, EA, ec, ⟨p0, p1, p2, p3, p4, p5, p6, p7⟩, hss⟩ := hfx k hkf
      subst hfa
      have hdrop := fitK_drop hkv hkf
      have hfit := fun W (hW : Below wr.heap.size wr W) => Fits_val vs[k] fs[k].f.name fs[k].f.kind (.slice EA fs[k].en.length ec) fs[k].y fs[k].en W (hss.below hW (Nat.le_refl _))
      have HDR := Lib.hid (hdrop.symm.trans HD.out)
      have HFT := Lib.hid hfit
      clear hdrop hfit hvx hfx hss
      have HBW := Lib.hid (alloc1 wr (.cells #[.int .i64 (vs[k]).k, .int .i64 (vs[k]).i, .bool (vs[k]).b, .string (vs[k]).s, .float .f64 (vs[k]).n] 55))
      generalize vs[k] = x at *
      generalize fs[k] = f at *
      go_upto_region 6 with fail
      have hbx := heap_alloc_new wr (.cells #[.int .i64 x.k, .int .i64 x.i, .bool x.b, .string x.s, .float .f64 x.n] 55)
      obtain ⟨p0, p1, p2, p3, p4, p5, p6, p7⟩ := (show Fdp wr (fa.add (k * 8)) f.f.name f.f.kind EA f.en.length ec f.y from ⟨p0, p1, p2, p3, p4, p5, p6, p7⟩).below HBW.out (by rw [block_add]; exact hfb)
      generalize hw1 : wr.alloc (.cells #[.int .i64 x.k, .int .i64 x.i, .bool x.b, .string x.s, .float .f64 x.n] 55) = w1 at *
      have b0 := (heap_at hbx 0).trans (rfl : _ = some (Value.int .i64 x.k))
      have b1 := (heap_at hbx 1).trans (rfl : _ = some (Value.int .i64 x.i))
      have b2 := (heap_at hbx 2).trans (rfl : _ = some (Value.bool x.b))
      have b3 := (heap_at hbx 3).trans (rfl : _ = some (Value.string x.s))
      have b4 := (heap_at hbx 4).trans (rfl : _ = some (Value.float .f64 x.n))
      have HK := Lib.hid (show ∀ W, Below w1.heap.size w1 W → (fun W => Below w1.heap.size w1 W ∧ W.cell? ⟨wr.heap.size, 0, none⟩ = some (.int .i64 x.k) ∧ W.cell? ⟨wr.heap.size, 1, none⟩ = some (.int .i64 x.i) ∧ W.cell? ⟨wr.heap.size, 2, none⟩ = some (.bool x.b) ∧ W.cell? ⟨wr.heap.size, 3, none⟩ = some (.string x.s) ∧ W.cell? ⟨wr.heap.size, 4, none⟩ = some (.float .f64 x.n) ∧ W.cell? (fa.add (k * 8)) = some (.string f.f.name) ∧ W.cell? ⟨(fa.add (k * 8)).block, (fa.add (k * 8)).off + 1, none⟩ = some (.int .i64 f.f.kind) ∧ W.cell? ⟨(fa.add (k * 8)).block, (fa.add (k * 8)).off + 2, none⟩ = some (.slice EA f.en.length ec) ∧ W.cell? ⟨(fa.add (k * 8)).block, (fa.add (k * 8)).off + 3, none⟩ = some (.int .i64 f.y.k) ∧ W.cell? ⟨(fa.add (k * 8)).block, (fa.add (k * 8)).off + 4, none⟩ = some (.int .i64 f.y.i) ∧ W.cell? ⟨(fa.add (k * 8)).block, (fa.add (k * 8)).off + 5, none⟩ = some (.bool f.y.b) ∧ W.cell? ⟨(fa.add (k * 8)).block, (fa.add (k * 8)).off + 6, none⟩ = some (.string f.y.s) ∧ W.cell? ⟨(fa.add (k * 8)).block, (fa.add (k * 8)).off + 7, none⟩ = some (.float .f64 f.y.n)) W from fun W h => ⟨h, (h.cell (World.block_lt_of_cell? _ _ b0)).trans b0, (h.cell (World.block_lt_of_cell? _ _ b1)).trans b1, (h.cell (World.block_lt_of_cell? _ _ b2)).trans b2, (h.cell (World.block_lt_of_cell? _ _ b3)).trans b3, (h.cell (World.block_lt_of_cell? _ _ b4)).trans b4, (h.cell (World.block_lt_of_cell? _ _ p0)).trans p0, (h.cell (World.block_lt_of_cell? _ _ p1)).trans p1, (h.cell (World.block_lt_of_cell? _ _ p2)).trans p2, (h.cell (World.block_lt_of_cell? _ _ p3)).trans p3, (h.cell (World.block_lt_of_cell? _ _ p4)).trans p4, (h.cell (World.block_lt_of_cell? _ _ p5)).trans p5, (h.cell (World.block_lt_of_cell? _ _ p6)).trans p6, (h.cell (World.block_lt_of_cell? _ _ p7)).trans p7⟩)
      have HBr0 := Lib.hid (show Below w1.heap.size w1 w1.drew from (Below.refl _ _).drew)
      have HS0 := Lib.hid (HK.out w1.drew HBr0.out)
      go_region_held3 (fun W => Below w1.heap.size w1 W ∧ W.cell? ⟨wr.heap.size, 0, none⟩ = some (.int .i64 x.k) ∧ W.cell? ⟨wr.heap.size, 1, none⟩ = some (.int .i64 x.i) ∧ W.cell? ⟨wr.heap.size, 2, none⟩ = some (.bool x.b) ∧ W.cell? ⟨wr.heap.size, 3, none⟩ = some (.string x.s) ∧ W.cell? ⟨wr.heap.size, 4, none⟩ = some (.float .f64 x.n) ∧ W.cell? (fa.add (k * 8)) = some (.string f.f.name) ∧ W.cell? ⟨(fa.add (k * 8)).block, (fa.add (k * 8)).off + 1, none⟩ = some (.int .i64 f.f.kind) ∧ W.cell? ⟨(fa.add (k * 8)).block, (fa.add (k * 8)).off + 2, none⟩ = some (.slice EA f.en.length ec) ∧ W.cell? ⟨(fa.add (k * 8)).block, (fa.add (k * 8)).off + 3, none⟩ = some (.int .i64 f.y.k) ∧ W.cell? ⟨(fa.add (k * 8)).block, (fa.add (k * 8)).off + 4, none⟩ = some (.int .i64 f.y.i) ∧ W.cell? ⟨(fa.add (k * 8)).block, (fa.add (k * 8)).off + 5, none⟩ = some (.bool f.y.b) ∧ W.cell? ⟨(fa.add (k * 8)).block, (fa.add (k * 8)).off + 6, none⟩ = some (.string f.y.s) ∧ W.cell? ⟨(fa.add (k * 8)).block, (fa.add (k * 8)).off + 7, none⟩ = some (.float .f64 f.y.n)) (first | assumption | exact HK.out _ HBr1.out | exact HS0.out) (first
          | (go_at_call 152; refine (HFT.out _ (bel2 HBW.out HBr0.out)).mono ?_; rintro e wr1 ⟨rfl, hbr1⟩; have HBr1 := Lib.hid (bel2 HBr0.out hbr1); clear hbr1))
      by_cases hz : fitsV x f.f.kind f.en = 0
      · have hzb : (fitsV x f.f.kind f.en != 0) = false := by simp [hz]
        have HZ := Lib.hid hz
        clear hz
        go_wp2
        go_roundw
        case rel => exact ⟨k + 1, by omega, by go_num, by have h := HDR.out; rw [HZ.out] at h; simpa using h, bel2 HB.out (bel2 HBW.out HBr1.out)⟩
        case measure => simp [intOf]; omega
      · have hzb : (fitsV x f.f.kind f.en != 0) = true := by simpa using hz
        have HZ := Lib.hid hz
        clear hz
        go_wp2
        go_ret
        exact ⟨ret_bool (by have h := HDR.out; rw [← h]; simp [HZ.out]), bel2 HB.out (bel2 HBW.out HBr1.out)⟩
    · obtain rfl : k = m := by omega
      have hltI : ¬ (k : Int) < (k : Int) := by omega
      have hfin : fitK vs fs = true := by
        rw [← HD.out, List.drop_of_length_le (by have := HM.out; omega)]
        rfl
      have HFI := Lib.hid hfin
      clear hfin
      go_wp2
      go_ret
      exact ⟨ret_bool (by rw [HFI.out]), HB.out⟩

set_option maxHeartbeats 1000000 in
theorem rightEnds_any (EA : Option Addr) (ec : Nat) (ends : List Int) (s : Stg) (A : Option Addr) (c : Nat) (w : World) (he : Is w (.slice EA ends.length ec) ends) (hs : Is w (.slice A s.orgs.length c) s.orgs) :
    Calls Tryz.prog 91 #[.slice EA ends.length ec, .agg #[.string s.name, .int .i64 s.need, .slice A s.orgs.length c]] w (VMk (.bool (endsR s.orgs (-1) ends)) w) := by
  have HB := Lib.hid (alloc1 w (.cells #[.string s.name, .int .i64 s.need, .slice A s.orgs.length c] 65))
  have hbx := heap_alloc_new w (.cells #[.string s.name, .int .i64 s.need, .slice A s.orgs.length c] 65)
  have HE := Lib.hid (Rd.below he HB.out (Nat.le_refl _))
  have HS := Lib.hid (Rd.below hs HB.out (Nat.le_refl _))
  clear he hs
  go_enter Tryz.func91, Tryz.ntmps91
  go_upto_region 1 with fail
  generalize w.alloc (.cells #[.string s.name, .int .i64 s.need, .slice A s.orgs.length c] 65) = w0 at *
  have c2 := (heap_at hbx 2).trans (rfl : _ = some (Value.slice A s.orgs.length c))
  clear hbx
  have HCT := Lib.hid (fun (o : Int) W (h : W = w0) => show Calls Tryz.prog 153 #[.slice A s.orgs.length c, .int .i64 o] W (VGv (.bool (memI o s.orgs)) W) from kContains_any A c s.orgs o W (by rw [h]; exact HS.out))
  obtain ⟨-, hm, hx⟩ := (show Is w0 (.slice EA ends.length ec) ends from HE.out).open
  unfold maxLen at hm
  have HX := Lib.hid hx
  clear hx
  generalize s.orgs = orgs at *
  go_wp2
  go_loopw [5, 10] (fun a i wr => ∃ (k : Nat) (av : Int), k ≤ ends.length ∧ i = .int .i64 k ∧ a = .int .i64 av ∧ endsR orgs av (ends.drop k) = endsR orgs (-1) ends ∧ w0 = wr) (fun _ i _ => ends.length - (intOf i).toNat)
  case atStart => exact ⟨0, -1, Nat.zero_le _, rfl, rfl, rfl, rfl⟩
  case round =>
    obtain ⟨k, av, hk, rfl, rfl, hdone, rfl⟩ := hrel
    by_cases hlt : k < ends.length
    · have hltI : (k : Int) < (ends.length : Int) := by omega
      obtain ⟨ad, rfl, hbl, hcell⟩ := HX.out k hlt
      rw [List.drop_eq_getElem_cons hlt, endsR] at hdone
      have HD := Lib.hid hdone
      clear hdone
      generalize ends[k] = o at *
      by_cases h1 : o ≤ av
      · have HR := Lib.hid (show endsR orgs (-1) ends = false by rw [← HD.out]; simp [h1])
        go_wp2
        go_ret
        exact ⟨ret_bool (by rw [HR.out]), HB.out⟩
      · rcases hmm : memI o orgs with _ | _
        · have HR := Lib.hid (show endsR orgs (-1) ends = false by rw [← HD.out, hmm]; simp)
          have HM := Lib.hid hmm
          clear hmm
          go_wp2_with (go_at_call 153; refine (HCT.out o _ rfl).mono ?_; rintro e w' ⟨rfl, rfl⟩; have hmb := HM.out)
          go_ret
          exact ⟨ret_bool (by rw [HR.out]), HB.out⟩
        · have HR := Lib.hid (show endsR orgs o (ends.drop (k + 1)) = endsR orgs (-1) ends by rw [← HD.out, hmm]; simp [h1])
          have HM := Lib.hid hmm
          clear hmm
          go_wp2_with (go_at_call 153; refine (HCT.out o _ rfl).mono ?_; rintro e w' ⟨rfl, rfl⟩; have hmb := HM.out)
          go_roundw
          case rel => exact ⟨k + 1, o, by omega, by go_num, rfl, HR.out, by trivial⟩
          case measure => simp [intOf]; omega
    · obtain rfl : k = ends.length := by omega
      have hltI : ¬ (ends.length : Int) < (ends.length : Int) := by omega
      have HR := Lib.hid (show endsR orgs (-1) ends = true by rw [← hdone, List.drop_length]; rfl)
      clear hdone
      go_wp2
      go_ret
      exact ⟨ret_bool (by rw [HR.out]), HB.out⟩

abbrev vCells (v : Vl) : List Value := [.int .i64 v.k, .int .i64 v.i, .bool v.b, .string v.s, .float .f64 v.n]
theorem vCells_one (l : List Vl) : ∀ u ∈ l.flatMap vCells, u.oneCell' = true := fun u hu => by
  obtain ⟨v, -, hv⟩ := List.mem_flatMap.1 hu
  simp only [vCells, List.mem_cons, List.not_mem_nil, or_false] at hv
  rcases hv with rfl | rfl | rfl | rfl | rfl <;> rfl
theorem Vlp.cells {w : World} {p : Addr} {y : Vl} (h : Vlp w p y) : ∀ o u, (vCells y)[o]? = some u → w.cell? (p.add o) = some u := by
  obtain ⟨h0, h1, h2, h3, h4⟩ := h
  intro o u hu
  match o, hu with
  | 0, hu => injection hu with hu; subst hu; rw [Addr.add_zero']; exact h0
  | 1, hu => injection hu with hu; subst hu; rw [Addr.add_succ']; exact h1
  | 2, hu => injection hu with hu; subst hu; rw [Addr.add_succ']; exact h2
  | 3, hu => injection hu with hu; subst hu; rw [Addr.add_succ']; exact h3
  | 4, hu => injection hu with hu; subst hu; rw [Addr.add_succ']; exact h4
theorem VlK.rows {w : World} {A : Option Addr} {c : Nat} {l : List Vl} (h : VlK w A c l) : RowS w 5 (.slice A l.length c) l.length (l.flatMap vCells) := by
  obtain ⟨h1, h2, h3, h4⟩ := h
  refine ⟨A, c, rfl, flat_len vCells 5 (fun _ => rfl) l, fun ha => by have := h3 ha; omega, fun a ha j u hj => ?_⟩
  have hjl : j < l.length * 5 := by
    have := (List.getElem?_eq_some_iff.1 hj).1
    rwa [flat_len vCells 5 (fun _ => rfl) l] at this
  have hq : j / 5 < l.length := by omega
  rw [show j = j / 5 * 5 + j % 5 by omega, flat_get vCells 5 (fun _ => rfl) l _ _ hq (Nat.mod_lt _ (by decide))] at hj
  obtain ⟨ad, e1, -, e3⟩ := h4 _ hq
  rw [ha] at e1
  injection e1 with e1
  subst e1
  rw [show j = j / 5 * 5 + j % 5 by omega, ← add_add']
  exact e3.cells _ _ hj
theorem vlN_own {T : Nat → Prop} {w : World} {base : Nat} {v : Value} {n : Nat} {l : List Vl} (h : w.ownsRow base 55 5 v n (l.flatMap vCells)) (hT : ∀ b, base ≤ b → T b) : ∃ A c, v = .slice A l.length c ∧ VlN T w A c l := by
  obtain ⟨A, c, h1, h2⟩ := rowN_own vCells (fun _ => rfl) (by decide) id (R := Vlp) h hT fun q hq b i hc => ⟨hc 0 (by omega), hc 1 (by omega), hc 2 (by omega), hc 3 (by omega), hc 4 (by omega)⟩
  rw [List.map_id] at h1 h2
  exact ⟨A, c, h1, h2⟩
theorem map_intC : ∀ l : List Int, l.map (Value.int .i64) = l.flatMap intC
  | [] => rfl
  | x :: l => by rw [List.map_cons, List.flatMap_cons, map_intC l]; rfl
theorem isN_own {T : Nat → Prop} {w : World} {base : Nat} {v : Value} {n : Nat} {l : List Int} (h : w.ownsRow base 3 1 v n (l.map (Value.int .i64))) (hT : ∀ b, base ≤ b → T b) : ∃ A c, v = .slice A l.length c ∧ IsN T w A c l := by
  rw [map_intC] at h
  obtain ⟨A, c, h1, h2⟩ := rowN_own intC (fun _ => rfl) (by decide) id (R := IntP) h hT fun q hq b i hc => hc 0 Nat.one_pos
  rw [List.map_id] at h1 h2
  exact ⟨A, c, h1, h2⟩
theorem int_one (l : List Int) : ∀ u ∈ l.map (Value.int .i64), u.oneCell' = true := fun u hu => by
  obtain ⟨n, -, rfl⟩ := List.mem_map.1 hu
  rfl
theorem is_rows {w : World} {A : Option Addr} {c : Nat} {l : List Int} (h : Is w (.slice A l.length c) l) : RowS w 1 (.slice A l.length c) l.length (l.map (Value.int .i64)) := by
  obtain ⟨A', c', hv, hc, hm, hn, hx⟩ := h
  injection hv with e1 e2 e3
  subst e1 e3
  rw [List.length_map] at hc
  refine ⟨A, c, rfl, by simp, fun ha => ⟨by have := hn ha; omega, hn ha⟩, fun a ha j u hj => ?_⟩
  have hne : l.map (Value.int .i64) ≠ [] := fun e => by rw [e] at hj; simp at hj
  obtain ⟨ad, h1, h2, h3⟩ := hx hne
  rw [ha] at h1
  injection h1 with h1
  subst h1
  exact h3 j u hj
def ClV (l : List Vl) (w : World) (e : Ending) (w' : World) : Prop := ∃ v, e = .returned v ∧ w'.ownsRow w.heap.size 55 5 v l.length (l.flatMap vCells) ∧ Below w.heap.size w w'
def ClI (l : List Int) (w : World) (e : Ending) (w' : World) : Prop := ∃ v, e = .returned v ∧ w'.ownsRow w.heap.size 3 1 v l.length (l.map (Value.int .i64)) ∧ Below w.heap.size w w'
theorem infoVl : (Tryz.prog.info? 55).map (fun i => (i.zero, i.size, i.bytes)) = some (some (.agg #[.int .i64 0, .int .i64 0, .bool false, .string ⟨#[]⟩, .float .f64 0]), 5, 48) := by kernel_rfl
theorem infoIn : (Tryz.prog.info? 3).map (fun i => (i.zero, i.size, i.bytes)) = some (some (.int .i64 0), 1, 8) := by kernel_rfl
set_option maxHeartbeats 1000000 in
theorem cloneVl_any (A : Option Addr) (c : Nat) (l : List Vl) (w : World) (hv : VlK w A c l) (hl : l.length ≤ 1000) : Calls Tryz.prog 52 #[.slice A l.length c] w (ClV l w) := by
  obtain ⟨i1, hi1, hz1, hsz1, hby1⟩ := infoZ infoVl
  have hrows : RowS w 5 (.slice A l.length c) l.length (l.flatMap vCells) := hv.rows
  rcases A with _ | ad
  · obtain ⟨-, -, -, hn, -⟩ := id hrows
    have hl0 : l = [] := List.eq_nil_of_length_eq_zero (by obtain ⟨A', c', e, h1, h2, h3⟩ := hrows; injection e with e1 e2 e3; exact (h2 e1.symm).1)
    subst hl0
    clear hn hv hrows
    have he := fun (w : World) => Lib.run_eql_slice_nil (P := Tryz.prog) w 42 55 none 0 c 0 0 Tryz.underlying42
    simp only [List.length_nil]
    go_enter Tryz.func52, Tryz.ntmps52
    go_wp2
    go_ret
    exact ⟨_, rfl, World.ownsRow_nil _ _ _ _, Below.refl _ _⟩
  · have HR := Lib.hid hrows
    have HL := Lib.hid hl
    clear hv hrows hl
    have he := fun (w : World) => Lib.run_eql_slice_nil (P := Tryz.prog) w 42 55 (some ad) l.length c 0 0 Tryz.underlying42
    go_enter Tryz.func52, Tryz.ntmps52
    go_wp2_with (at_builtin; refine wpList_append_rows rfl (.tmp 5) (.tmp 6) 42 rfl w.heap.size 55 i1 (.agg #[.int .i64 0, .int .i64 0, .bool false, .string ⟨#[]⟩, .float .f64 0]) 5 48 Tryz.underlying42 hi1 hz1 hsz1 hby1 rfl (by decide) _ 0 [] rfl (World.ownsRow_made w #[] 0 (Nat.le_refl _) (Nat.zero_le _) rfl) _ l.length (l.flatMap vCells) rfl (HR.out.below (alloc1 _ _)) (vCells_one l) (by have := HL.out; unfold maxLen; omega) (by have := HL.out; omega) (by simp) ?_; intro v2 w2 hown2 hg2 hor2)
    go_ret
    refine ⟨_, rfl, by simpa using hown2, ?_⟩
    exact ((Below.refl w.heap.size w).alloc (Nat.le_refl _) _).grown hg2 (by simp) (by intro k h; injection h with h; simp only at h; omega)
set_option maxHeartbeats 1000000 in
theorem cloneIn_any (A : Option Addr) (c : Nat) (l : List Int) (w : World) (hv : Is w (.slice A l.length c) l) (hl : l.length ≤ 1000) : Calls Tryz.prog 53 #[.slice A l.length c] w (ClI l w) := by
  obtain ⟨i1, hi1, hz1, hsz1, hby1⟩ := infoZ infoIn
  have hrows : RowS w 1 (.slice A l.length c) l.length (l.map (Value.int .i64)) := is_rows hv
  rcases A with _ | ad
  · obtain ⟨-, -, -, hn, -⟩ := id hrows
    have hl0 : l = [] := List.eq_nil_of_length_eq_zero (by obtain ⟨A', c', e, h1, h2, h3⟩ := hrows; injection e with e1 e2 e3; exact (h2 e1.symm).1)
    subst hl0
    clear hn hv hrows
    have he := fun (w : World) => Lib.run_eql_slice_nil (P := Tryz.prog) w 43 3 none 0 c 0 0 Tryz.underlying43
    simp only [List.length_nil]
    go_enter Tryz.func53, Tryz.ntmps53
    go_wp2
    go_ret
    exact ⟨_, rfl, World.ownsRow_nil _ _ _ _, Below.refl _ _⟩
  · have HR := Lib.hid hrows
    have HL := Lib.hid hl
    clear hv hrows hl
    have he := fun (w : World) => Lib.run_eql_slice_nil (P := Tryz.prog) w 43 3 (some ad) l.length c 0 0 Tryz.underlying43
    go_enter Tryz.func53, Tryz.ntmps53
    go_wp2_with (at_builtin; refine wpList_append_rows rfl (.tmp 5) (.tmp 6) 43 rfl w.heap.size 3 i1 (.int .i64 0) 1 8 Tryz.underlying43 hi1 hz1 hsz1 hby1 rfl (by decide) _ 0 [] rfl (World.ownsRow_made w #[] 0 (Nat.le_refl _) (Nat.zero_le _) rfl) _ l.length (l.map (Value.int .i64)) rfl (HR.out.below (alloc1 _ _)) (int_one l) (by have := HL.out; unfold maxLen; omega) (by have := HL.out; omega) (by simp) ?_; intro v2 w2 hown2 hg2 hor2)
    go_ret
    refine ⟨_, rfl, by simpa using hown2, ?_⟩
    exact ((Below.refl w.heap.size w).alloc (Nat.le_refl _) _).grown hg2 (by simp) (by intro k h; injection h with h; simp only at h; omega)

theorem CsN.nil (S : Nat → Prop) (w : World) (k : Cse) (hv : k.vals = []) (he : k.ends = []) : CsN S w k none 0 none 0 := ⟨by rw [hv]; exact RowN.nil _ _ _ _, by rw [he]; exact RowN.nil _ _ _ _⟩
theorem CsN.set8 {w W : World} {k : Cse} {VA : Option Addr} {vc : Nat} {EA : Option Addr} {ec : Nat} {rb : Nat} (hb : w.heap.size ≤ rb) (hn : CsN (fun b => rb < b) W k VA vc EA ec) (hB : Below w.heap.size w W) (u0 u1 u2 u3 u4 u5 u6 u7 : Value) :
    CsN (fun b => w.heap.size ≤ b) (set8 W rb u0 u1 u2 u3 u4 u5 u6 u7) k VA vc EA ec ∧ Below w.heap.size w (set8 W rb u0 u1 u2 u3 u4 u5 u6 u7) := by
  have ho := set8_only W rb u0 u1 u2 u3 u4 u5 u6 u7
  exact ⟨hn.move (fun b hb2 hl => ⟨ho.block b hl (by intro e; injection e with e; omega), by omega⟩) ho.size, hB.trans (ho.to_below hB.size hb)⟩
theorem GivesK.mk {w W : World} {r : Cse × Int} {VA : Option Addr} {vc : Nat} {EA : Option Addr} {ec : Nat} {rb : Nat} (hb : w.heap.size ≤ rb) (hn : CsN (fun b => rb < b) W r.1 VA vc EA ec) (hB : Below w.heap.size w W) (u0 u1 u2 u3 u4 u5 u6 u7 : Value) :
    GivesK r w (.returned (.tuple #[.agg (csK r.1 VA vc EA ec), .int .i64 r.2])) (Go.Proofs.YtachhcabgggimaaGreat.set8 W rb u0 u1 u2 u3 u4 u5 u6 u7) :=
  ⟨VA, vc, EA, ec, rfl, (CsN.set8 hb hn hB ..).1, (CsN.set8 hb hn hB ..).2⟩
structure NwI (w : World) (b : Nat) (id nm : ByteArray) (fs : List Fld) (wr : World) (k : Nat) (row : Value) : Prop where
  bx : wr.heap[b]? = some (.cells #[.string id, .string nm, .int .i64 0, row, .slice none 0 0, .bool false, .bool false, .int .i64 0] 45 (0, 0))
  own : wr.ownsRow (b + 1) 55 5 row k ((fs.take k).flatMap fun f => vCells f.y)
  bel : Below b w wr
theorem NwI.at4 {w : World} {b : Nat} {id nm : ByteArray} {fs : List Fld} {wr w4 : World} {k : Nat} {row : Value} {o1 o2 : Obj} (h : NwI w b id nm fs wr k row) (hgr : ((wr.alloc o1).alloc o2).grownBy w4 row.ownBlock) :
    w4.heap[b]? = some (.cells #[.string id, .string nm, .int .i64 0, row, .slice none 0 0, .bool false, .bool false, .int .i64 0] 45 (0, 0)) := by
  have hrow0 := h.own.lt
  have hb := heap_ltZ h.bx
  have hz3 : ((wr.alloc o1).alloc o2).heap.size = wr.heap.size + 2 := by simp
  rw [hgr.block b (by omega) (fun e => by have := (hrow0 b e.symm).1; omega)]
  exact ((alloc1 (wr.alloc o1) o2).block b (by simp; omega)).trans (((alloc1 wr o1).block b (by omega)).trans h.bx)
theorem NwI.next {w : World} {b : Nat} {id nm : ByteArray} {fs : List Fld} {wr w4 : World} {k : Nat} {row row' : Value} {o1 o2 : Obj} (h : NwI w b id nm fs wr k row) (hk : k < fs.length) (hw : w.heap.size ≤ b)
    (hown : w4.ownsRow (b + 1) 55 5 row' (k + 1) (((fs.take k).flatMap fun f => vCells f.y) ++ vCells fs[k].y)) (hgr : ((wr.alloc o1).alloc o2).grownBy w4 row.ownBlock) : NwI w b id nm fs (w4.setCell ⟨b, 3, none⟩ row') (k + 1) row' := by
  have hrow0 := h.own.lt
  have hb := heap_ltZ h.bx
  have hz4 := hgr.size
  have hz3 : ((wr.alloc o1).alloc o2).heap.size = wr.heap.size + 2 := by simp
  have hlow : ∀ m, m ≤ b → row.ownBlock ≠ some m := fun m hm e => by have := (hrow0 m e).1; omega
  have hkeep : ∀ m, m ≤ b → w4.heap[m]? = wr.heap[m]? := fun m hm => by
    rw [hgr.block m (by omega) (fun e => hlow m hm e.symm)]
    exact ((alloc1 (wr.alloc o1) o2).block m (by simp; omega)).trans ((alloc1 wr o1).block m (by omega))
  refine ⟨?_, ?_, ⟨?_, ?_, ?_, ?_, fun m hm => ?_⟩⟩
  · have h5 := setZ ((hkeep b (Nat.le_refl _)).trans h.bx) 3 row'
    simpa using h5
  · rw [List.take_succ_eq_append_getElem hk, List.flatMap_append, List.flatMap_cons, List.flatMap_nil, List.append_nil]
    exact ownsRow_setCell_below hown (a := ⟨b, 3, none⟩) (Nat.lt_succ_self b) row'
  · exact hgr.os.trans h.bel.os
  · exact hgr.tape.trans h.bel.tape
  · exact hgr.output.trans h.bel.output
  · have := h.bel.size; simp [World.setCell]; omega
  · rw [Below.heap_setCell w4 _ _ m (show m ≠ b by omega), hkeep m (by omega)]
    exact h.bel.block m hm
set_option maxHeartbeats 4000000 in
theorem kNew_any (ct : Ctr) (FA : Option Addr) (fc : Nat) (SA : Option Addr) (sc : Nat) (MA : Option Addr) (mc : Nat) (id : ByteArray) (w : World) (h : CtK w ct FA fc SA sc MA mc) :
    Calls Tryz.prog 20 #[agC ct.name FA ct.fs.length fc SA ct.ss.length sc MA ct.ms.length mc, .string id] w (GivesK (newK ct id) w) := by
  have hsf := fun (w : World) (a : Addr) (m : Mode) (b : Nat) => run_store Tryz.prog w a (.float .f64 b) m rfl
  have hb2 : Below w.heap.size w ((w.alloc (.cells #[.string ct.name, .slice FA ct.fs.length fc, .slice SA ct.ss.length sc, .slice MA ct.ms.length mc] 33)).alloc (.cells #[.string ⟨#[]⟩, .string ⟨#[]⟩, .int .i64 0, .slice none 0 0, .slice none 0 0, .bool false, .bool false, .int .i64 0] 45)) := (alloc1 _ _).trans ((alloc1 _ _).mono (by simp))
  have hbc2 := belowZ (heap_alloc_new w (.cells #[.string ct.name, .slice FA ct.fs.length fc, .slice SA ct.ss.length sc, .slice MA ct.ms.length mc] 33)) (alloc1 (w.alloc (.cells #[.string ct.name, .slice FA ct.fs.length fc, .slice SA ct.ss.length sc, .slice MA ct.ms.length mc] 33)) (.cells #[.string ⟨#[]⟩, .string ⟨#[]⟩, .int .i64 0, .slice none 0 0, .slice none 0 0, .bool false, .bool false, .int .i64 0] 45))
  have hbk := heap_alloc_new (w.alloc (.cells #[.string ct.name, .slice FA ct.fs.length fc, .slice SA ct.ss.length sc, .slice MA ct.ms.length mc] 33)) (.cells #[.string ⟨#[]⟩, .string ⟨#[]⟩, .int .i64 0, .slice none 0 0, .slice none 0 0, .bool false, .bool false, .int .i64 0] 45)
  rw [World.size_alloc] at hbk
  have HCK := Lib.hid (fun W (hb : Below w.heap.size w W) => cCheck_any ct FA fc SA sc MA mc W (h.below hb))
  have HN := Lib.hid (fun W => kName_any id W)
  have HF := Lib.hid (fun W (hb : Below w.heap.size w W) => h.f.below hb)
  have HB0 := Lib.hid hb2
  clear h hb2
  by_cases hc : checkC ct = 0
  case neg =>
    have hnk : newK ct id = (zK, 81) := by unfold newK; rw [if_neg hc]
    rw [hnk]
    have hcb : (checkC ct != 0) = true := by simpa using hc
    generalize checkC ct = ck at *
    clear hnk hc
    go_enter Tryz.func20, Tryz.ntmps20
    go_upto_region 1 with fail
    generalize (w.alloc (.cells #[.string ct.name, .slice FA ct.fs.length fc, .slice SA ct.ss.length sc, .slice MA ct.ms.length mc] 33)).alloc (.cells #[.string ⟨#[]⟩, .string ⟨#[]⟩, .int .i64 0, .slice none 0 0, .slice none 0 0, .bool false, .bool false, .int .i64 0] 45) = w0 at *
    have c0 := (heap_at hbc2 0).trans (rfl : _ = some (Value.string ct.name))
    have c1 := (heap_at hbc2 1).trans (rfl : _ = some (Value.slice FA ct.fs.length fc))
    have c2 := (heap_at hbc2 2).trans (rfl : _ = some (Value.slice SA ct.ss.length sc))
    have c3 := (heap_at hbc2 3).trans (rfl : _ = some (Value.slice MA ct.ms.length mc))
    have cf := heap_free hbc2
    have cl := heap_ltZ hbc2
    go_wp2_with fail
    refine (HCK.out _ HB0.out).mono ?_
    rintro _ w1 ⟨rfl, hb1⟩
    have hbk1 := belowZ hbk hb1
    have HB1 := Lib.hid (bel2 HB0.out hb1)
    clear hb1 hbk hbc2 c0 c1 c2 c3 cf cl
    have k0 := (heap_at hbk1 0).trans (rfl : _ = some (Value.string ⟨#[]⟩))
    have k1 := (heap_at hbk1 1).trans (rfl : _ = some (Value.string ⟨#[]⟩))
    have k2 := (heap_at hbk1 2).trans (rfl : _ = some (Value.int .i64 0))
    have k3 := (heap_at hbk1 3).trans (rfl : _ = some (Value.slice none 0 0))
    have k4 := (heap_at hbk1 4).trans (rfl : _ = some (Value.slice none 0 0))
    have k5 := (heap_at hbk1 5).trans (rfl : _ = some (Value.bool false))
    have k6 := (heap_at hbk1 6).trans (rfl : _ = some (Value.bool false))
    have k7 := (heap_at hbk1 7).trans (rfl : _ = some (Value.int .i64 0))
    have kf := heap_free hbk1
    have kl := heap_ltZ hbk1
    go_wp2
    exact bodyPost_ret (v := .tuple #[.agg (csK zK none 0 none 0), .int .i64 81]) (by simp [results, Tryz.results20, go_sem, k0, k1, k2, k3, k4, k5, k6, k7, kl, zK]) rfl (GivesK.mk (r := (zK, 81)) (Nat.le_succ _) (CsN.nil _ _ _ rfl rfl) HB1.out _ _ _ _ _ _ _ _)
  have hcb : (checkC ct != 0) = false := by simp [hc]
  by_cases hn : nameB id = true
  case neg =>
    have hnk : newK ct id = (zK, 50) := by unfold newK; rw [if_pos hc, if_neg hn]
    rw [hnk]
    have hnb : nameB id = false := by simpa using hn
    rw [hnb] at HN
    generalize checkC ct = ck at *
    clear hnk hc hn hnb
    go_enter Tryz.func20, Tryz.ntmps20
    go_upto_region 1 with fail
    generalize (w.alloc (.cells #[.string ct.name, .slice FA ct.fs.length fc, .slice SA ct.ss.length sc, .slice MA ct.ms.length mc] 33)).alloc (.cells #[.string ⟨#[]⟩, .string ⟨#[]⟩, .int .i64 0, .slice none 0 0, .slice none 0 0, .bool false, .bool false, .int .i64 0] 45) = w0 at *
    have c0 := (heap_at hbc2 0).trans (rfl : _ = some (Value.string ct.name))
    have c1 := (heap_at hbc2 1).trans (rfl : _ = some (Value.slice FA ct.fs.length fc))
    have c2 := (heap_at hbc2 2).trans (rfl : _ = some (Value.slice SA ct.ss.length sc))
    have c3 := (heap_at hbc2 3).trans (rfl : _ = some (Value.slice MA ct.ms.length mc))
    have cf := heap_free hbc2
    have cl := heap_ltZ hbc2
    go_wp2_with fail
    refine (HCK.out _ HB0.out).mono ?_
    rintro _ w1 ⟨rfl, hb1⟩
    have hbk1 := belowZ hbk hb1
    have HB1 := Lib.hid (bel2 HB0.out hb1)
    clear hb1 hbk hbc2 c0 c1 c2 c3 cf cl
    have k0 := (heap_at hbk1 0).trans (rfl : _ = some (Value.string ⟨#[]⟩))
    have k1 := (heap_at hbk1 1).trans (rfl : _ = some (Value.string ⟨#[]⟩))
    have k2 := (heap_at hbk1 2).trans (rfl : _ = some (Value.int .i64 0))
    have k3 := (heap_at hbk1 3).trans (rfl : _ = some (Value.slice none 0 0))
    have k4 := (heap_at hbk1 4).trans (rfl : _ = some (Value.slice none 0 0))
    have k5 := (heap_at hbk1 5).trans (rfl : _ = some (Value.bool false))
    have k6 := (heap_at hbk1 6).trans (rfl : _ = some (Value.bool false))
    have k7 := (heap_at hbk1 7).trans (rfl : _ = some (Value.int .i64 0))
    have kf := heap_free hbk1
    have kl := heap_ltZ hbk1
    go_wp2_with fail
    refine (HN.out _).mono ?_
    rintro _ w2 ⟨rfl, rfl⟩
    go_wp2
    exact bodyPost_ret (v := .tuple #[.agg (csK zK none 0 none 0), .int .i64 50]) (by simp [results, Tryz.results20, go_sem, k0, k1, k2, k3, k4, k5, k6, k7, kl, zK]) rfl (GivesK.mk (r := (zK, 50)) (Nat.le_succ _) (CsN.nil _ _ _ rfl rfl) HB1.out _ _ _ _ _ _ _ _)
  have hnk : newK ct id = (⟨id, ct.name, 0, ct.fs.map Fld.y, [], false, false, 0⟩, 0) := by unfold newK; rw [if_pos hc, if_pos hn]
  rw [hnk]
  have hf6 : ct.fs.length ≤ 6 := by
    obtain ⟨-, h2, -, -⟩ := check_parts hc
    unfold fieldsR at h2
    simp only [Bool.and_eq_true, decide_eq_true_eq] at h2
    omega
  rw [hn] at HN
  have HF6 := Lib.hid hf6
  generalize checkC ct = ck at *
  clear hnk hc hn hf6
  obtain ⟨i1, hi1, hz1, hsz1, hby1⟩ := infoZ infoVl
  go_enter Tryz.func20, Tryz.ntmps20
  go_upto_region 1 with fail
  generalize (w.alloc (.cells #[.string ct.name, .slice FA ct.fs.length fc, .slice SA ct.ss.length sc, .slice MA ct.ms.length mc] 33)).alloc (.cells #[.string ⟨#[]⟩, .string ⟨#[]⟩, .int .i64 0, .slice none 0 0, .slice none 0 0, .bool false, .bool false, .int .i64 0] 45) = w0 at *
  have c0 := (heap_at hbc2 0).trans (rfl : _ = some (Value.string ct.name))
  have c1 := (heap_at hbc2 1).trans (rfl : _ = some (Value.slice FA ct.fs.length fc))
  have c2 := (heap_at hbc2 2).trans (rfl : _ = some (Value.slice SA ct.ss.length sc))
  have c3 := (heap_at hbc2 3).trans (rfl : _ = some (Value.slice MA ct.ms.length mc))
  have cf := heap_free hbc2
  have cl := heap_ltZ hbc2
  go_wp2_with fail
  refine (HCK.out _ HB0.out).mono ?_
  rintro _ w1 ⟨rfl, hb1⟩
  have hbk1 := belowZ hbk hb1
  have hbc1 := belowZ hbc2 hb1
  have HB1 := Lib.hid (bel2 HB0.out hb1)
  clear hb1 hbk hbc2 c0 c1 c2 c3 cf cl
  have c0 := (heap_at hbc1 0).trans (rfl : _ = some (Value.string ct.name))
  have c1 := (heap_at hbc1 1).trans (rfl : _ = some (Value.slice FA ct.fs.length fc))
  have c2 := (heap_at hbc1 2).trans (rfl : _ = some (Value.slice SA ct.ss.length sc))
  have c3 := (heap_at hbc1 3).trans (rfl : _ = some (Value.slice MA ct.ms.length mc))
  have cf := heap_free hbc1
  have cl := heap_ltZ hbc1
  go_wp2_with fail
  refine (HN.out _).mono ?_
  rintro _ w2 ⟨rfl, rfl⟩
  have hwb : w.heap.size + 1 < w1.heap.size := heap_ltZ hbk1
  go_upto_region 6 with fail
  have HN0 := Lib.hid (show NwI w1 w1.heap.size id ct.name ct.fs (w1.alloc (.cells #[.string id, .string ct.name, .int .i64 0, .slice none 0 0, .slice none 0 0, .bool false, .bool false, .int .i64 0] 45)) 0 (.slice none 0 0) from ⟨heap_alloc_new _ _, World.ownsRow_nil _ _ _ _, alloc1 _ _⟩)
  generalize hw3 : w1.alloc (.cells #[.string id, .string ct.name, .int .i64 0, .slice none 0 0, .slice none 0 0, .bool false, .bool false, .int .i64 0] 45) = w3 at *
  generalize hbb : w1.heap.size = b at *
  have HBB := Lib.hid hbb
  have HWB := Lib.hid hwb
  have HBK := Lib.hid hbk1
  have HBC := Lib.hid (belowZ hbc1 (show Below w1.heap.size w1 w3 by rw [← hw3]; exact alloc1 _ _))
  clear hbb hwb hbk1 hbc1 hw3 c0 c1 c2 c3 cf cl
  have hx3 := HN0.out.bx
  have c0 := (heap_at HBC.out 0).trans (rfl : _ = some (Value.string ct.name))
  have c1 := (heap_at HBC.out 1).trans (rfl : _ = some (Value.slice FA ct.fs.length fc))
  have c2 := (heap_at HBC.out 2).trans (rfl : _ = some (Value.slice SA ct.ss.length sc))
  have c3 := (heap_at HBC.out 3).trans (rfl : _ = some (Value.slice MA ct.ms.length mc))
  have cf := heap_free HBC.out
  have cl := heap_ltZ HBC.out
  generalize hn : ct.fs.length = n at *
  have HNN := Lib.hid hn
  clear hn
  go_wp2
  go_loopw [24] (fun i wr => ∃ (k : Nat) (row : Value), k ≤ n ∧ i = .int .i64 k ∧ NwI w1 b id ct.name ct.fs wr k row) (fun i _ => n - (intOf i).toNat)
  case atStart => exact ⟨0, _, Nat.zero_le _, rfl, HN0.out⟩
  case round =>
    obtain ⟨k, row, hk, rfl, hi⟩ := hrel
    have HI := Lib.hid hi
    clear hi hx3 c0 c1 c2 c3 cf cl
    by_cases hlt : k < n
    · have hltI : (k : Int) < (n : Int) := by omega
      have hkf : k < ct.fs.length := by have := HNN.out; omega
      have hbel : Below w.heap.size w wr := bel2 HB1.out (show Below w1.heap.size w1 wr by rw [HBB.out]; exact HI.out.bel)
      obtain ⟨-, -, -, hfx⟩ := HF.out wr hbel
      obtain ⟨fa, hfa, hfb, QA, qc, ⟨p0, p1, p2, p3, p4, p5, p6, p7⟩, -⟩ := hfx k hkf
      subst hfa
      have hbx := HI.out.bx
      have hown := HI.out.own
      have HKF := Lib.hid hkf
      have HLT := Lib.hid hlt
      have x0 := (heap_at hbx 0).trans (rfl : _ = some (Value.string id))
      have x1 := (heap_at hbx 1).trans (rfl : _ = some (Value.string ct.name))
      have x2 := (heap_at hbx 2).trans (rfl : _ = some (Value.int .i64 0))
      have x3 := (heap_at hbx 3).trans (rfl : _ = some (row))
      have x4 := (heap_at hbx 4).trans (rfl : _ = some (Value.slice none 0 0))
      have x5 := (heap_at hbx 5).trans (rfl : _ = some (Value.bool false))
      have x6 := (heap_at hbx 6).trans (rfl : _ = some (Value.bool false))
      have x7 := (heap_at hbx 7).trans (rfl : _ = some (Value.int .i64 0))
      have xf := heap_free hbx
      have xl := heap_ltZ hbx
      have hfd : (ct.fs[k]).y = (ct.fs[k]).y := rfl
      generalize hf0 : ct.fs[k] = f at *
      have HF0 := Lib.hid hf0
      clear hf0 hfd hfx hlt hkf
      have HOW := Lib.hid ((hown.alloc (.cells #[.string f.f.name, .int .i64 f.f.kind, .slice QA f.en.length qc, .int .i64 f.y.k, .int .i64 f.y.i, .bool f.y.b, .string f.y.s, .float .f64 f.y.n] 83)).alloc (.cells (vCells f.y).toArray 55))
      have hrw := rows_one (wr.alloc (.cells #[.string f.f.name, .int .i64 f.f.kind, .slice QA f.en.length qc, .int .i64 f.y.k, .int .i64 f.y.i, .bool f.y.b, .string f.y.s, .float .f64 f.y.n] 83)) (vCells f.y) 55 5 rfl
      rw [World.size_alloc] at hrw
      have HRW := Lib.hid hrw
      have hb1 : k + 1 ≤ maxLen := by have := HF6.out; have := HLT.out; unfold maxLen; omega
      have hb2 : (k + 1) * 48 ≤ 140737488355328 := by have := HF6.out; have := HLT.out; omega
      have HBS := Lib.hid (And.intro hb1 hb2)
      have HONE := Lib.hid (show ∀ u ∈ vCells f.y, u.oneCell' = true from by have h := vCells_one [f.y]; simpa using h)
      have hbz : b + 1 ≤ ((wr.alloc (.cells #[.string f.f.name, .int .i64 f.f.kind, .slice QA f.en.length qc, .int .i64 f.y.k, .int .i64 f.y.i, .bool f.y.b, .string f.y.s, .float .f64 f.y.n] 83)).alloc (.cells (vCells f.y).toArray 55)).heap.size := by have := heap_ltZ hbx; simp only [World.size_alloc]; omega
      have HBZ := Lib.hid hbz
      clear hb1 hb2 hbz hrw hown
      have hn6 := HF6.out
      go_wp2_with (at_builtin; refine wpList_append_rows rfl (.tmp 29) (.tmp 32) 42 rfl (b + 1) 55 i1 (.agg #[.int .i64 0, .int .i64 0, .bool false, .string ⟨#[]⟩, .float .f64 0]) 5 48 Tryz.underlying42 hi1 hz1 hsz1 hby1 rfl (by decide) _ k _ rfl HOW.out _ 1 (vCells f.y) rfl HRW.out HONE.out HBS.out.1 HBS.out.2 HBZ.out ?_; intro v4 w4 hown4 hgr4 hor4; obtain ⟨A4, c4, rfl⟩ := own_sliceX hown4; have HNX := Lib.hid (NwI.next HI.out HKF.out (Nat.le_of_eq HBB.out) (by rw [← HF0.out] at hown4; exact hown4) hgr4); have hz4 := hgr4.size; have hbk4 := NwI.at4 HI.out hgr4; have x43 := (heap_at hbk4 3).trans (rfl : _ = some row); have x4f := heap_free hbk4; clear hown4 hgr4 hor4)
      go_roundw
      case rel =>
        have hl6 := HLT.out
        exact ⟨k + 1, _, by omega, by go_num, HNX.out⟩
      case measure =>
        have hl6 := HLT.out
        simp [intOf]; omega
    · obtain rfl : k = n := by omega
      have hltI : ¬ (k : Int) < (k : Int) := by omega
      have hown := HI.out.own
      rw [show (ct.fs.take k).flatMap (fun f => vCells f.y) = (ct.fs.map Fld.y).flatMap vCells by rw [← HNN.out, List.take_length, List.flatMap_map]] at hown
      have hlen : (ct.fs.map Fld.y).length = k := by rw [List.length_map]; exact HNN.out
      obtain ⟨A4, c4, rfl, hvn⟩ := vlN_own (T := fun m => w.heap.size + 1 < m) hown fun m hm => by have := HWB.out; omega
      have HVN := Lib.hid hvn
      have hbx := HI.out.bx
      have x0 := (heap_at hbx 0).trans (rfl : _ = some (Value.string id))
      have x1 := (heap_at hbx 1).trans (rfl : _ = some (Value.string ct.name))
      have x2 := (heap_at hbx 2).trans (rfl : _ = some (Value.int .i64 0))
      have x3 := (heap_at hbx 3).trans (rfl : _ = some (Value.slice A4 (ct.fs.map Fld.y).length c4))
      have x4 := (heap_at hbx 4).trans (rfl : _ = some (Value.slice none 0 0))
      have x5 := (heap_at hbx 5).trans (rfl : _ = some (Value.bool false))
      have x6 := (heap_at hbx 6).trans (rfl : _ = some (Value.bool false))
      have x7 := (heap_at hbx 7).trans (rfl : _ = some (Value.int .i64 0))
      have xf := heap_free hbx
      have xl := heap_ltZ hbx
      have hbk := (HI.out.bel.block (w.heap.size + 1) (by have := HWB.out; omega)).trans HBK.out
      have k0 := (heap_at hbk 0).trans (rfl : _ = some (Value.string ⟨#[]⟩))
      have k1 := (heap_at hbk 1).trans (rfl : _ = some (Value.string ⟨#[]⟩))
      have k2 := (heap_at hbk 2).trans (rfl : _ = some (Value.int .i64 0))
      have k3 := (heap_at hbk 3).trans (rfl : _ = some (Value.slice none 0 0))
      have k4 := (heap_at hbk 4).trans (rfl : _ = some (Value.slice none 0 0))
      have k5 := (heap_at hbk 5).trans (rfl : _ = some (Value.bool false))
      have k6 := (heap_at hbk 6).trans (rfl : _ = some (Value.bool false))
      have k7 := (heap_at hbk 7).trans (rfl : _ = some (Value.int .i64 0))
      have kf := heap_free hbk
      have kl := heap_ltZ hbk
      clear hown hvn hbx hbk
      go_wp2
      exact bodyPost_ret (v := .tuple #[.agg (csK ⟨id, ct.name, 0, ct.fs.map Fld.y, [], false, false, 0⟩ A4 c4 none 0), .int .i64 0]) (by simp [results, Tryz.results20, go_sem, k0, k1, k2, k3, k4, k5, k6, k7, kl, HNN.out]) rfl (GivesK.mk (r := (⟨id, ct.name, 0, ct.fs.map Fld.y, [], false, false, 0⟩, 0)) (Nat.le_succ _) ⟨HVN.out, RowN.nil _ _ _ _⟩ (bel2 HB1.out (show Below w1.heap.size w1 wr by rw [HBB.out]; exact HI.out.bel)) _ _ _ _ _ _ _ _)

set_option maxHeartbeats 4000000 in
theorem rfields_any (ct : Ctr) (FA : Option Addr) (fc : Nat) (SA : Option Addr) (sc : Nat) (MA : Option Addr) (mc : Nat) (w : World) (h : CtK w ct FA fc SA sc MA mc) :
    Calls Tryz.prog 41 #[agC ct.name FA ct.fs.length fc SA ct.ss.length sc MA ct.ms.length mc] w (VMk (.bool (fieldsR ct)) w) := by
  rw [fields_both]
  have hgf : ∀ (x : Fld) W, CtK W ct FA fc SA sc MA mc → Calls Tryz.prog 81 #[agC ct.name FA ct.fs.length fc SA ct.ss.length sc MA ct.ms.length mc, .string x.f.name] W (VMk (.int .i64 ((fun x : Fld => placeN x.f.name (ct.fs.map fun x => x.f.name) 0) x)) W) := fun x W h => rField_any ct FA fc SA sc MA mc x.f.name W h
  generalize (fun x : Fld => placeN x.f.name (ct.fs.map fun x => x.f.name) 0) = g at *
  have hm := h.f.2.1
  have hm1 := h.f.1
  unfold maxLen at hm
  have hlen : ct.fs.length ≤ 9223372036854775807 := by omega
  have HX := Lib.hid h.f.2.2.2
  have HB0 := Lib.hid (alloc1 w (bxC ct.name FA ct.fs.length fc SA ct.ss.length sc MA ct.ms.length mc))
  have HBR := Lib.hid (Below.refl (w.alloc (bxC ct.name FA ct.fs.length fc SA ct.ss.length sc MA ct.ms.length mc)).heap.size (w.alloc (bxC ct.name FA ct.fs.length fc SA ct.ss.length sc MA ct.ms.length mc)))
  have HC := Lib.hid (BxA.new w (csC ct.name FA ct.fs.length fc SA ct.ss.length sc MA ct.ms.length mc) 33)
  have HCT := Lib.hid h
  clear h hm hm1
  have HG := Lib.hid (fun x W hb => hgf x W (HCT.out.below hb))
  clear hgf
  have h00 : bothF g fieldR (ct.fs.drop 0) 0 = bothF g fieldR ct.fs 0 := rfl
  generalize bothF g fieldR ct.fs 0 = R at *
  have hsf := fun (w : World) (a : Addr) (m : Mode) (b : Nat) => run_store Tryz.prog w a (.float .f64 b) m rfl
  have c1 := HC.out.2 1 _ rfl
  go_enter Tryz.func41, Tryz.ntmps41
  go_upto_region 1 with fail
  generalize hw0 : w.alloc (bxC ct.name FA ct.fs.length fc SA ct.ss.length sc MA ct.ms.length mc) = w0 at *
  clear hw0
  by_cases h6 : 6 < ct.fs.length
  · have hi : (6 : Int) < (ct.fs.length : Int) := by omega
    go_wp2
    go_ret
    exact ⟨ret_bool (by simp; omega), HB0.out⟩
  have hi : ¬ (6 : Int) < (ct.fs.length : Int) := by omega
  have hd6 : decide ((ct.fs.length : Int) ≤ 6) = true := decide_eq_true (by omega)
  rw [hd6, Bool.true_and]
  clear hd6 h6
  have H00 := Lib.hid h00
  clear h00
  go_wp2
  go_loopw [3] (fun i wr => ∃ k : Nat, k ≤ ct.fs.length ∧ i = .int .i64 k ∧ bothF g fieldR (ct.fs.drop k) k = R ∧ Below w0.heap.size w0 wr) (fun i _ => ct.fs.length - (intOf i).toNat)
  case atStart => exact ⟨0, Nat.zero_le _, rfl, H00.out, HBR.out⟩
  case round =>
    clear c1
    obtain ⟨k, hk, rfl, hfi, hb⟩ := hrel
    have HB := Lib.hid hb
    clear hb
    have c0 := (HC.out.below HB.out).2 0 _ rfl
    have c1 := (HC.out.below HB.out).2 1 _ rfl
    have c2 := (HC.out.below HB.out).2 2 _ rfl
    have c3 := (HC.out.below HB.out).2 3 _ rfl
    by_cases hlt : k < ct.fs.length
    · have hltI : (k : Int) < (ct.fs.length : Int) := by omega
      obtain ⟨ad, rfl, hbl, hpart⟩ := HX.out k hlt
      have hpart2 := hpart.below (bel2 HB0.out HB.out) (by rw [block_add]; exact hbl)
      rw [List.drop_eq_getElem_cons hlt, bothF] at hfi
      have HGX := Lib.hid (HG.out ct.fs[k])
      generalize ct.fs[k] = x at *
      obtain ⟨A, c, hq, hdeep⟩ := hpart2
      have q0 : wr.cell? (ad.add (k * 8)) = some (.string x.f.name) := hq.1
      have q1 : wr.cell? ⟨(ad.add (k * 8)).block, (ad.add (k * 8)).off + 1, none⟩ = some (.int .i64 x.f.kind) := hq.2.1
      have q2 : wr.cell? ⟨(ad.add (k * 8)).block, (ad.add (k * 8)).off + 2, none⟩ = some (.slice A x.en.length c) := hq.2.2.1
      have q3 : wr.cell? ⟨(ad.add (k * 8)).block, (ad.add (k * 8)).off + 3, none⟩ = some (.int .i64 x.y.k) := hq.2.2.2.1
      have q4 : wr.cell? ⟨(ad.add (k * 8)).block, (ad.add (k * 8)).off + 4, none⟩ = some (.int .i64 x.y.i) := hq.2.2.2.2.1
      have q5 : wr.cell? ⟨(ad.add (k * 8)).block, (ad.add (k * 8)).off + 5, none⟩ = some (.bool x.y.b) := hq.2.2.2.2.2.1
      have q6 : wr.cell? ⟨(ad.add (k * 8)).block, (ad.add (k * 8)).off + 6, none⟩ = some (.string x.y.s) := hq.2.2.2.2.2.2.1
      have q7 : wr.cell? ⟨(ad.add (k * 8)).block, (ad.add (k * 8)).off + 7, none⟩ = some (.float .f64 x.y.n) := hq.2.2.2.2.2.2.2
      have HBX := Lib.hid (fun W (hb : Below (wr.alloc (bxFl x A c)).heap.size (wr.alloc (bxFl x A c)) W) => (Fdp_new wr x A c).below hb (al_lt wr _))
      have HB1 := Lib.hid (bel2 (bel2 HB0.out HB.out) (alloc1 wr (bxFl x A c)))
      have HBA := Lib.hid (bel2 HB.out (alloc1 wr (bxFl x A c)))
      have HDP := Lib.hid (Ss.below hdeep (alloc1 wr (bxFl x A c)) (Nat.le_refl _))
      have HN := Lib.hid (fun W => rName_any x.f.name W)
      have HFK := Lib.hid (fun (h : fieldR x = true) => field_kind h)
      have hP : fieldR x = (nameB x.f.name && enumR x && (fitsV x.y x.f.kind x.en == 0)) := rfl
      have he : ∀ W, Below (wr.alloc (bxFl x A c)).heap.size (wr.alloc (bxFl x A c)) W → _ := fun W hb => renum_any x A c W (Ss.below HDP.out hb (Nat.le_refl _))
      have hft : ∀ W, Below (wr.alloc (bxFl x A c)).heap.size (wr.alloc (bxFl x A c)) W → _ := fun W hb => rFits_val x.y x.f.name x.f.kind (.slice A x.en.length c) x.y x.en W (Ss.below HDP.out hb (Nat.le_refl _))
      have c1b := (HC.out.below HBA.out).2 1 _ rfl
      have c0b := (HC.out.below HBA.out).2 0 _ rfl
      have c2b := (HC.out.below HBA.out).2 2 _ rfl
      have c3b := (HC.out.below HBA.out).2 3 _ rfl
      obtain ⟨b0, b1, b2, b3, b4, b5, b6, b7⟩ := HBX.out _ (Below.refl _ _)
      have hne : (g x != (k : Int)) = !(g x == (k : Int)) := rfl
      generalize fieldR x = P at *
      generalize nameB x.f.name = n1 at *
      generalize enumR x = n3 at *
      generalize fitsV x.y x.f.kind x.en = z at *
      have HE := Lib.hid he
      have HF := Lib.hid hft
      clear he hft hpart hq hdeep
      go_upto_region 7 with fail
      have HW1 := Lib.hid (alloc1 wr (bxFl x A c))
      generalize hw1 : wr.alloc (bxFl x A c) = w1 at *
      clear hw1 c0 c1 c2 c3
      rcases n1 with _ | _
      · have hPf : P = false := by rw [hP]; rfl
        rw [hPf, Bool.and_false, Bool.false_and] at hfi
        have HFI := Lib.hid hfi
        clear hfi
        go_wp2_with (first | fail | (go_at_call 40; refine (HN.out _).mono ?_; rintro e w2 ⟨rfl, rfl⟩))
        go_ret
        exact ⟨ret_bool (by have h := HFI.out; exact h), bel2 HB0.out HBA.out⟩
      rcases hgk : (g x == (k : Int)) with _ | _
      · rw [hgk, Bool.false_and, Bool.false_and] at hfi
        rw [hgk] at hne
        simp only [Bool.not_false] at hne
        clear hgk
        have HFI := Lib.hid hfi
        clear hfi
        go_wp2_with (first | fail | (go_at_call 40; refine (HN.out _).mono ?_; rintro e w2 ⟨rfl, rfl⟩) | (go_at_call 81; refine (HGX.out _ HB1.out).mono ?_; rintro e w2 ⟨rfl, hb2⟩; clear b0 b1 b2 b3 b4 b5 b6 b7; obtain ⟨b0, b1, b2, b3, b4, b5, b6, b7⟩ := HBX.out _ hb2))
        go_ret
        exact ⟨ret_bool (by have h := HFI.out; exact h), bel2 HB0.out (bel2 HBA.out hb2)⟩
      rw [hgk, Bool.true_and] at hfi
      rw [hgk] at hne
      simp only [Bool.not_true] at hne
      clear hgk
      by_cases hk1 : x.f.kind < 1
      · have hPf : P = false := by cases hPv : P; rfl; exact absurd (HFK.out hPv).1 (by omega)
        rw [hPf, Bool.false_and] at hfi
        have HFI := Lib.hid hfi
        clear hfi
        go_wp2_with (first | fail | (go_at_call 40; refine (HN.out _).mono ?_; rintro e w2 ⟨rfl, rfl⟩) | (go_at_call 81; refine (HGX.out _ HB1.out).mono ?_; rintro e w2 ⟨rfl, hb2⟩; clear b0 b1 b2 b3 b4 b5 b6 b7; obtain ⟨b0, b1, b2, b3, b4, b5, b6, b7⟩ := HBX.out _ hb2))
        go_ret
        exact ⟨ret_bool (by have h := HFI.out; exact h), bel2 HB0.out (bel2 HBA.out hb2)⟩
      by_cases hk4 : 4 < x.f.kind
      · have hPf : P = false := by cases hPv : P; rfl; exact absurd (HFK.out hPv).2 (by omega)
        rw [hPf, Bool.false_and] at hfi
        have HFI := Lib.hid hfi
        clear hfi
        go_wp2_with (first | fail | (go_at_call 40; refine (HN.out _).mono ?_; rintro e w2 ⟨rfl, rfl⟩) | (go_at_call 81; refine (HGX.out _ HB1.out).mono ?_; rintro e w2 ⟨rfl, hb2⟩; clear b0 b1 b2 b3 b4 b5 b6 b7; obtain ⟨b0, b1, b2, b3, b4, b5, b6, b7⟩ := HBX.out _ hb2))
        go_ret
        exact ⟨ret_bool (by have h := HFI.out; exact h), bel2 HB0.out (bel2 HBA.out hb2)⟩
      rcases n3 with _ | _
      · have hPf : P = false := by rw [hP]; simp
        rw [hPf, Bool.false_and] at hfi
        have HFI := Lib.hid hfi
        clear hfi
        go_wp2_with (first | fail | (go_at_call 40; refine (HN.out _).mono ?_; rintro e w2 ⟨rfl, rfl⟩) | (go_at_call 81; refine (HGX.out _ HB1.out).mono ?_; rintro e w2 ⟨rfl, hb2⟩; clear b0 b1 b2 b3 b4 b5 b6 b7; obtain ⟨b0, b1, b2, b3, b4, b5, b6, b7⟩ := HBX.out _ hb2) | (go_at_call 82; refine (HE.out _ hb2).mono ?_; rintro e w3 ⟨rfl, hb3⟩; clear b0 b1 b2 b3 b4 b5 b6 b7; obtain ⟨b0, b1, b2, b3, b4, b5, b6, b7⟩ := HBX.out _ (bel2 hb2 hb3)))
        go_ret
        exact ⟨ret_bool (by have h := HFI.out; exact h), bel2 HB0.out (bel2 HBA.out (bel2 hb2 hb3))⟩
      by_cases hz : ¬ z = 0
      · have hPf : P = false := by rw [hP]; simp [hz]
        have hzb : (z != 0) = true := by simpa using hz
        rw [hPf, Bool.false_and] at hfi
        clear hz
        have HFI := Lib.hid hfi
        clear hfi
        go_wp2_with (first | fail | (go_at_call 40; refine (HN.out _).mono ?_; rintro e w2 ⟨rfl, rfl⟩) | (go_at_call 81; refine (HGX.out _ HB1.out).mono ?_; rintro e w2 ⟨rfl, hb2⟩; clear b0 b1 b2 b3 b4 b5 b6 b7; obtain ⟨b0, b1, b2, b3, b4, b5, b6, b7⟩ := HBX.out _ hb2) | (go_at_call 82; refine (HE.out _ hb2).mono ?_; rintro e w3 ⟨rfl, hb3⟩; clear b0 b1 b2 b3 b4 b5 b6 b7; obtain ⟨b0, b1, b2, b3, b4, b5, b6, b7⟩ := HBX.out _ (bel2 hb2 hb3)) | (go_at_call 49; refine (HF.out _ (bel2 hb2 hb3)).mono ?_; rintro e w4 ⟨rfl, hb4⟩))
        go_ret
        exact ⟨ret_bool (by have h := HFI.out; exact h), bel2 HB0.out (bel2 HBA.out (bel2 (bel2 hb2 hb3) hb4))⟩
      replace hz := Decidable.not_not.1 hz
      subst hz
      have hPt : P = true := by rw [hP]; rfl
      rw [hPt, Bool.true_and] at hfi
      have HFI := Lib.hid hfi
      clear hfi
      go_wp2_with (first | fail | (go_at_call 40; refine (HN.out _).mono ?_; rintro e w2 ⟨rfl, rfl⟩) | (go_at_call 81; refine (HGX.out _ HB1.out).mono ?_; rintro e w2 ⟨rfl, hb2⟩; clear b0 b1 b2 b3 b4 b5 b6 b7; obtain ⟨b0, b1, b2, b3, b4, b5, b6, b7⟩ := HBX.out _ hb2) | (go_at_call 82; refine (HE.out _ hb2).mono ?_; rintro e w3 ⟨rfl, hb3⟩; clear b0 b1 b2 b3 b4 b5 b6 b7; obtain ⟨b0, b1, b2, b3, b4, b5, b6, b7⟩ := HBX.out _ (bel2 hb2 hb3)) | (go_at_call 49; refine (HF.out _ (bel2 hb2 hb3)).mono ?_; rintro e w4 ⟨rfl, hb4⟩))
      go_roundw
      case rel => exact ⟨k + 1, by omega, by go_num, HFI.out, bel2 HBA.out (bel2 (bel2 hb2 hb3) hb4)⟩
      case measure => simp [intOf]; omega
    · obtain rfl : k = ct.fs.length := by omega
      have hltI : ¬ (ct.fs.length : Int) < (ct.fs.length : Int) := by omega
      rw [List.drop_length, bothF] at hfi
      have HF := Lib.hid hfi
      clear hfi
      go_wp2
      go_ret
      exact ⟨ret_bool HF.out, bel2 HB0.out HB.out⟩

abbrev csSt (x : Stg) (A : Option Addr) (c : Nat) : List Value := [.string x.name, .int .i64 x.need, .slice A x.orgs.length c]
set_option maxHeartbeats 8000000 in
theorem rstages_any (ct : Ctr) (FA : Option Addr) (fc : Nat) (SA : Option Addr) (sc : Nat) (MA : Option Addr) (mc : Nat) (w : World) (h : CtK w ct FA fc SA sc MA mc) :
    Calls Tryz.prog 42 #[agC ct.name FA ct.fs.length fc SA ct.ss.length sc MA ct.ms.length mc] w (VMk (.bool (stagesR ct)) w) := by
  rw [stages_both]
  have hgf : ∀ (x : Stg) W, CtK W ct FA fc SA sc MA mc → Calls Tryz.prog 83 #[agC ct.name FA ct.fs.length fc SA ct.ss.length sc MA ct.ms.length mc, .string x.name] W (VMk (.int .i64 ((fun x : Stg => placeN x.name (ct.ss.map fun x => x.name) 0) x)) W) := fun x W h => rStage_any ct FA fc SA sc MA mc x.name W h
  generalize (fun x : Stg => placeN x.name (ct.ss.map fun x => x.name) 0) = g at *
  have hm := h.s.2.1
  have hm1 := h.s.1
  unfold maxLen at hm
  have hlen : ct.ss.length ≤ 9223372036854775807 := by omega
  have HX := Lib.hid h.s.2.2.2
  have HB0 := Lib.hid (alloc1 w (bxC ct.name FA ct.fs.length fc SA ct.ss.length sc MA ct.ms.length mc))
  have HBR := Lib.hid (Below.refl (w.alloc (bxC ct.name FA ct.fs.length fc SA ct.ss.length sc MA ct.ms.length mc)).heap.size (w.alloc (bxC ct.name FA ct.fs.length fc SA ct.ss.length sc MA ct.ms.length mc)))
  have HC := Lib.hid (BxA.new w (csC ct.name FA ct.fs.length fc SA ct.ss.length sc MA ct.ms.length mc) 33)
  have HCT := Lib.hid h
  clear h hm hm1
  have HG := Lib.hid (fun x W hb => hgf x W (HCT.out.below hb))
  clear hgf
  have h00 : bothF g stageR (ct.ss.drop 0) 0 = bothF g stageR ct.ss 0 := rfl
  generalize bothF g stageR ct.ss 0 = R at *
  have hsf := fun (w : World) (a : Addr) (m : Mode) (b : Nat) => run_store Tryz.prog w a (.float .f64 b) m rfl
  have c2 := HC.out.2 2 _ rfl
  go_enter Tryz.func42, Tryz.ntmps42
  go_upto_region 1 with fail
  generalize hw0 : w.alloc (bxC ct.name FA ct.fs.length fc SA ct.ss.length sc MA ct.ms.length mc) = w0 at *
  clear hw0
  by_cases h1 : ct.ss.length < 1
  · have hi : (ct.ss.length : Int) < 1 := by omega
    go_wp2
    go_ret
    exact ⟨ret_bool (by simp; omega), HB0.out⟩
  have hi1 : ¬ (ct.ss.length : Int) < 1 := by omega
  by_cases h6 : 6 < ct.ss.length
  · have hi : (6 : Int) < (ct.ss.length : Int) := by omega
    go_wp2
    go_ret
    exact ⟨ret_bool (by simp; omega), HB0.out⟩
  have hi : ¬ (6 : Int) < (ct.ss.length : Int) := by omega
  have hd6 : (decide (1 ≤ (ct.ss.length : Int)) && decide ((ct.ss.length : Int) ≤ 6)) = true := by simp; omega
  rw [hd6, Bool.true_and]
  clear hd6 h6 h1
  have H00 := Lib.hid h00
  clear h00
  go_wp2
  go_loopw [3] (fun i wr => ∃ k : Nat, k ≤ ct.ss.length ∧ i = .int .i64 k ∧ bothF g stageR (ct.ss.drop k) k = R ∧ Below w0.heap.size w0 wr) (fun i _ => ct.ss.length - (intOf i).toNat)
  case atStart => exact ⟨0, Nat.zero_le _, rfl, H00.out, HBR.out⟩
  case round =>
    clear c2
    obtain ⟨k, hk, rfl, hfi, hb⟩ := hrel
    have HB := Lib.hid hb
    clear hb
    have c0 := (HC.out.below HB.out).2 0 _ rfl
    have c1 := (HC.out.below HB.out).2 1 _ rfl
    have c2 := (HC.out.below HB.out).2 2 _ rfl
    have c3 := (HC.out.below HB.out).2 3 _ rfl
    by_cases hlt : k < ct.ss.length
    · have hltI : (k : Int) < (ct.ss.length : Int) := by omega
      obtain ⟨ad, rfl, hbl, hpart⟩ := HX.out k hlt
      have hpart2 := hpart.below (bel2 HB0.out HB.out) (by rw [block_add]; exact hbl)
      rw [List.drop_eq_getElem_cons hlt, bothF] at hfi
      have HGX := Lib.hid (HG.out ct.ss[k])
      generalize ct.ss[k] = x at *
      obtain ⟨A, c, h0, h1, h2, hdeep⟩ := hpart2
      have q0 : wr.cell? (ad.add (k * 3)) = some (.string x.name) := h0
      have q1 : wr.cell? ⟨(ad.add (k * 3)).block, (ad.add (k * 3)).off + 1, none⟩ = some (.int .i64 x.need) := h1
      have q2 : wr.cell? ⟨(ad.add (k * 3)).block, (ad.add (k * 3)).off + 2, none⟩ = some (.slice A x.orgs.length c) := h2
      have hol := hdeep.open
      obtain ⟨-, hom, hox⟩ := hol
      unfold maxLen at hom
      have HBX := Lib.hid (fun W (hb : Below (wr.alloc (.cells (csSt x A c).toArray 65)).heap.size (wr.alloc (.cells (csSt x A c).toArray 65)) W) => (BxA.new wr (csSt x A c) 65).below hb)
      have HB1 := Lib.hid (bel2 (bel2 HB0.out HB.out) (alloc1 wr (.cells (csSt x A c).toArray 65)))
      have HBA := Lib.hid (bel2 HB.out (alloc1 wr (.cells (csSt x A c).toArray 65)))
      have HOX := Lib.hid (fun W (hb : Below (wr.alloc (.cells (csSt x A c).toArray 65)).heap.size (wr.alloc (.cells (csSt x A c).toArray 65)) W) j (hj : j < x.orgs.length) => (by
        obtain ⟨ad2, e1, e2, e3⟩ := hox j hj
        exact (⟨ad2, e1, ((bel2 (alloc1 wr _) hb).cell (p := ad2.add j) (by rw [block_add]; exact e2)).trans e3⟩ : ∃ ad2, A = some ad2 ∧ W.cell? (ad2.add j) = some (.int .i64 x.orgs[j]))))
      have HN := Lib.hid (fun W => rName_any x.name W)
      have hP : stageR x = (nameB x.name && orgsR (-1) x.orgs && (decide (0 ≤ x.need) && decide (x.need ≤ (x.orgs.length : Int)))) := rfl
      have hol4 : orgsR (-1) x.orgs = true → (x.orgs.length : Int) + (-1) ≤ 3 := fun h => orgs_len x.orgs (-1) (by omega) h (by omega)
      have c1b := (HC.out.below HBA.out).2 1 _ rfl
      have c0b := (HC.out.below HBA.out).2 0 _ rfl
      have c2b := (HC.out.below HBA.out).2 2 _ rfl
      have c3b := (HC.out.below HBA.out).2 3 _ rfl
      have b0 := (HBX.out _ (Below.refl _ _)).2 0 _ rfl
      have b1 := (HBX.out _ (Below.refl _ _)).2 1 _ rfl
      have b2 := (HBX.out _ (Below.refl _ _)).2 2 _ rfl
      have hne : (g x != (k : Int)) = !(g x == (k : Int)) := rfl
      generalize stageR x = P at *
      generalize nameB x.name = n1 at *
      have hq0 : orgsR (-1) (x.orgs.drop 0) = orgsR (-1) x.orgs := rfl
      generalize orgsR (-1) x.orgs = Q at *
      clear hpart hdeep hox h0 h1 h2
      go_upto_region 7 with fail
      have HW1 := Lib.hid (alloc1 wr (.cells (csSt x A c).toArray 65))
      generalize hw1 : wr.alloc (.cells (csSt x A c).toArray 65) = w1 at *
      clear hw1 c0 c1 c2 c3
      rcases n1 with _ | _
      · have hPf : P = false := by rw [hP]; rfl
        rw [hPf, Bool.and_false, Bool.false_and] at hfi
        clear hq0
        have HFI := Lib.hid hfi
        clear hfi
        go_wp2_with (first | fail | (go_at_call 40; refine (HN.out _).mono ?_; rintro e w2 ⟨rfl, rfl⟩))
        go_ret
        exact ⟨ret_bool (by have h := HFI.out; exact h), bel2 HB0.out HBA.out⟩
      rcases hgk : (g x == (k : Int)) with _ | _
      · rw [hgk, Bool.false_and, Bool.false_and] at hfi
        rw [hgk] at hne
        simp only [Bool.not_false] at hne
        clear hgk hq0
        have HFI := Lib.hid hfi
        clear hfi
        go_wp2_with (first | fail | (go_at_call 40; refine (HN.out _).mono ?_; rintro e w2 ⟨rfl, rfl⟩) | (go_at_call 83; refine (HGX.out _ HB1.out).mono ?_; rintro e w2 ⟨rfl, hb2⟩; clear b0 b1 b2; have b0 := (HBX.out _ hb2).2 0 _ rfl; have b1 := (HBX.out _ hb2).2 1 _ rfl; have b2 := (HBX.out _ hb2).2 2 _ rfl))
        go_ret
        exact ⟨ret_bool (by have h := HFI.out; exact h), bel2 HB0.out (bel2 HBA.out hb2)⟩
      rw [hgk, Bool.true_and] at hfi
      rw [hgk] at hne
      simp only [Bool.not_true] at hne
      clear hgk
      by_cases hb0 : 4 < x.orgs.length
      · have hbI : (4 : Int) < (x.orgs.length : Int) := by omega
        have hPf : P = false := by cases Q with | false => rw [hP]; rfl | true => exact absurd (hol4 rfl) (by omega)
        rw [hPf, Bool.false_and] at hfi
        clear hq0
        have HFI := Lib.hid hfi
        clear hfi
        go_wp2_with (first | fail | (go_at_call 40; refine (HN.out _).mono ?_; rintro e w2 ⟨rfl, rfl⟩) | (go_at_call 83; refine (HGX.out _ HB1.out).mono ?_; rintro e w2 ⟨rfl, hb2⟩; clear b0 b1 b2; have b0 := (HBX.out _ hb2).2 0 _ rfl; have b1 := (HBX.out _ hb2).2 1 _ rfl; have b2 := (HBX.out _ hb2).2 2 _ rfl))
        go_ret
        exact ⟨ret_bool (by have h := HFI.out; exact h), bel2 HB0.out (bel2 HBA.out hb2)⟩
      have hbI0 : ¬ (4 : Int) < (x.orgs.length : Int) := by omega
      by_cases hb1 : x.need < 0
      · have hbI : x.need < 0 := by omega
        have hPf : P = false := by rw [hP]; have hd : decide (0 ≤ x.need) = false := decide_eq_false (by omega); rw [hd]; simp
        rw [hPf, Bool.false_and] at hfi
        clear hq0
        have HFI := Lib.hid hfi
        clear hfi
        go_wp2_with (first | fail | (go_at_call 40; refine (HN.out _).mono ?_; rintro e w2 ⟨rfl, rfl⟩) | (go_at_call 83; refine (HGX.out _ HB1.out).mono ?_; rintro e w2 ⟨rfl, hb2⟩; clear b0 b1 b2; have b0 := (HBX.out _ hb2).2 0 _ rfl; have b1 := (HBX.out _ hb2).2 1 _ rfl; have b2 := (HBX.out _ hb2).2 2 _ rfl))
        go_ret
        exact ⟨ret_bool (by have h := HFI.out; exact h), bel2 HB0.out (bel2 HBA.out hb2)⟩
      have hbI1 : ¬ x.need < 0 := by omega
      by_cases hb2 : (x.orgs.length : Int) < x.need
      · have hbI : (x.orgs.length : Int) < x.need := by omega
        have hPf : P = false := by rw [hP]; have hd : decide (x.need ≤ (x.orgs.length : Int)) = false := decide_eq_false (by omega); rw [hd]; simp
        rw [hPf, Bool.false_and] at hfi
        clear hq0
        have HFI := Lib.hid hfi
        clear hfi
        go_wp2_with (first | fail | (go_at_call 40; refine (HN.out _).mono ?_; rintro e w2 ⟨rfl, rfl⟩) | (go_at_call 83; refine (HGX.out _ HB1.out).mono ?_; rintro e w2 ⟨rfl, hb2⟩; clear b0 b1 b2; have b0 := (HBX.out _ hb2).2 0 _ rfl; have b1 := (HBX.out _ hb2).2 1 _ rfl; have b2 := (HBX.out _ hb2).2 2 _ rfl))
        go_ret
        exact ⟨ret_bool (by have h := HFI.out; exact h), bel2 HB0.out (bel2 HBA.out hb2)⟩
      have hbI2 : ¬ (x.orgs.length : Int) < x.need := by omega
      have hPt : P = Q := by
        rw [hP]
        have hd : (decide (0 ≤ x.need) && decide (x.need ≤ (x.orgs.length : Int))) = true := by simp; omega
        rw [hd]; simp
      rw [hPt] at hfi
      have HFI := Lib.hid hfi
      have HQ0 := Lib.hid hq0
      clear hfi hq0 hP hPt hol4 hb0 hb1 hb2
      go_wp2_with (first | fail | (go_at_call 40; refine (HN.out _).mono ?_; rintro e w2 ⟨rfl, rfl⟩) | (go_at_call 83; refine (HGX.out _ HB1.out).mono ?_; rintro e w2 ⟨rfl, hb2⟩; clear b0 b1 b2; have b0 := (HBX.out _ hb2).2 0 _ rfl; have b1 := (HBX.out _ hb2).2 1 _ rfl; have b2 := (HBX.out _ hb2).2 2 _ rfl))
      have HB2 := Lib.hid hb2
      go_loopw [5] (fun i wr2 => ∃ (m : Nat) (z : Int), m ≤ x.orgs.length ∧ i = .int .i64 m ∧ ((m = 0 ∧ z = -1) ∨ (0 < m ∧ 0 ≤ z ∧ x.orgs[m - 1]? = some z)) ∧ orgsR z (x.orgs.drop m) = Q ∧ Below w1.heap.size w1 wr2) (fun i _ => x.orgs.length - (intOf i).toNat)
      case atStart => exact ⟨0, -1, Nat.zero_le _, rfl, .inl ⟨rfl, rfl⟩, HQ0.out, HB2.out⟩
      case round =>
        clear b0 b1 b2 c0b c1b c2b c3b
        obtain ⟨m, z, hm, rfl, hz, hq, hb3⟩ := hrel
        have HB3 := Lib.hid hb3
        have b2 := (HBX.out _ hb3).2 2 _ rfl
        clear hb3
        by_cases hml : m < x.orgs.length
        · have hmI : (m : Int) < (x.orgs.length : Int) := by omega
          obtain ⟨od, rfl, hco⟩ := HOX.out _ HB3.out m hml
          have hprev : 0 < m → wr.cell? (od.add (m - 1)) = some (.int .i64 z) := fun h0 => by
            rcases hz with ⟨hz, -⟩ | ⟨-, -, hz⟩
            · omega
            · obtain ⟨od2, e1, e2⟩ := HOX.out _ HB3.out (m - 1) (by omega)
              injection e1 with e1
              subst e1
              rw [List.getElem?_eq_getElem (by omega)] at hz
              injection hz with hz
              rw [← hz]; exact e2
          rw [List.drop_eq_getElem_cons hml, orgsR] at hq
          have hnx : x.orgs[m + 1 - 1]? = some x.orgs[m] := by rw [Nat.add_sub_cancel]; exact List.getElem?_eq_getElem hml
          have HNX := Lib.hid hnx
          have HZ := Lib.hid hz
          have HPV := Lib.hid hprev
          clear hnx hz hprev
          generalize x.orgs[m] = o at *
          by_cases ho0 : o < 0
          · have hd : decide (o < 0) = true := decide_eq_true ho0
            have hqf : Q = false := by
              rw [← hq]
              have hz := HZ.out
              have hd : decide (z + 1 ≤ o) = false := decide_eq_false (by omega)
              rw [hd]; rfl
            rw [hqf, Bool.false_and] at HFI
            clear hq
            go_wp2
            go_quiet (fail)
            go_wp2
            go_ret
            exact ⟨ret_bool HFI.out, bel2 HB0.out (bel2 HBA.out (below_drewN HB3.out _))⟩
          have hd0 : decide (o < 0) = false := decide_eq_false ho0
          by_cases ho4 : 4 ≤ o
          · have hd : decide (4 ≤ o) = true := decide_eq_true ho4
            have hqf : Q = false := by
              rw [← hq]
              have hd : decide (o ≤ 3) = false := decide_eq_false (by omega)
              rw [hd]; simp
            rw [hqf, Bool.false_and] at HFI
            clear hq
            go_wp2
            go_quiet (fail)
            go_wp2
            go_ret
            exact ⟨ret_bool HFI.out, bel2 HB0.out (bel2 HBA.out (below_drewN HB3.out _))⟩
          have hd4 : decide (4 ≤ o) = false := decide_eq_false ho4
          by_cases hm0 : m = 0
          · subst hm0
            have hzz : z = -1 := by have hz := HZ.out; omega
            have hqt : orgsR o (x.orgs.drop (0 + 1)) = Q := by
              rw [← hq]
              have hd1 : decide (z + 1 ≤ o) = true := decide_eq_true (by omega)
              have hd2 : decide (o ≤ 3) = true := decide_eq_true (by omega)
              rw [hd1, hd2]; simp
            have HQT := Lib.hid hqt
            have hd9 : decide ((0 : Int) < 0) = false := rfl
            have hco0 := hco
            rw [Addr.add_zero'] at hco0
            clear hq hqt hzz
            go_wp2
            go_quiet (fail)
            go_wp2
            go_roundw
            case rel => exact ⟨0 + 1, o, by omega, by go_num, .inr ⟨by omega, by omega, HNX.out⟩, HQT.out, below_drewN HB3.out _⟩
            case measure => simp [intOf]; omega
          have hmp : (0 : Int) < (m : Int) := by omega
          have hmd : decide ((0 : Int) < (m : Int)) = true := decide_eq_true hmp
          have hmdN : decide (0 < m) = true := decide_eq_true (by omega)
          have hmpN : 0 < m := by omega
          have hpc := HPV.out (by omega)
          have hwm : IntKind.i64.wrap ((m : Int) - 1) = ((m - 1 : Nat) : Int) := by rw [IntKind.wrap_i64]; omega
          have him : (0 : Int) ≤ ((m - 1 : Nat) : Int) ∧ ((m - 1 : Nat) : Int) < (x.orgs.length : Int) := by omega
          have hzz : 0 ≤ z := by have hz := HZ.out; omega
          by_cases hoz : o ≤ z
          · have hd : decide (o ≤ z) = true := decide_eq_true hoz
            have hqf : Q = false := by
              rw [← hq]
              have hd : decide (z + 1 ≤ o) = false := decide_eq_false (by omega)
              rw [hd]; rfl
            rw [hqf, Bool.false_and] at HFI
            clear hq
            go_wp2
            go_quiet (fail)
            go_wp2
            go_ret
            exact ⟨ret_bool HFI.out, bel2 HB0.out (bel2 HBA.out (below_drewN HB3.out _))⟩
          · have hd : decide (o ≤ z) = false := decide_eq_false hoz
            have hqt : orgsR o (x.orgs.drop (m + 1)) = Q := by
              rw [← hq]
              have hd1 : decide (z + 1 ≤ o) = true := decide_eq_true (by omega)
              have hd2 : decide (o ≤ 3) = true := decide_eq_true (by omega)
              rw [hd1, hd2]; simp
            have HQT := Lib.hid hqt
            clear hq hqt
            go_wp2
            go_quiet (fail)
            go_wp2
            go_roundw
            case rel => exact ⟨m + 1, o, by omega, by go_num, .inr ⟨by omega, by omega, HNX.out⟩, HQT.out, below_drewN HB3.out _⟩
            case measure => simp [intOf]; omega
        · obtain rfl : m = x.orgs.length := by omega
          have hmI : ¬ (x.orgs.length : Int) < (x.orgs.length : Int) := by omega
          rw [List.drop_length, orgsR] at hq
          subst hq
          rw [Bool.true_and] at HFI
          go_wp2
          go_roundw
          case rel => exact ⟨k + 1, by omega, by go_num, HFI.out, bel2 HBA.out HB3.out⟩
          case measure => simp [intOf]; omega
    · obtain rfl : k = ct.ss.length := by omega
      have hltI : ¬ (ct.ss.length : Int) < (ct.ss.length : Int) := by omega
      rw [List.drop_length, bothF] at hfi
      have HF := Lib.hid hfi
      clear hfi
      go_wp2
      go_ret
      exact ⟨ret_bool HF.out, bel2 HB0.out HB.out⟩

end Go.Proofs.YtachhcabgggimaaGreat
