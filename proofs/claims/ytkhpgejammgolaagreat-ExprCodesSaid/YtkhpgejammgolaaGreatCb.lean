/- Cb: EForm EForm2 EHold EChk EChk2 VShort VAwake Back ESnd ESnd2 EFld ETell ETell2 (made by shake.py). -/
import Derived.StillTailTactics
import Derived.Deep.OwnRows
import Derived.Deep.CutRange
import Derived.Deep.RegionHeld3
import Derived.WalkLawsBesides
import Derived.Defers
import Derived.Recover
import Derived.Test.YtkhpgejammgolaaGreatCa
/- Layer 5: is a part's form right, of which kind is a constant, a field, by the program. -/
namespace Go.Proofs.YtkhpgejammgolaaGreat
open Go.RowKit
set_option linter.unusedVariables false
set_option linter.unusedSimpArgs false
set_option maxRecDepth 20000

/-- 5.1: is a part's own form right -/
def formB (e : Ex) : Bool := (kidsN e.op == e.kids.length) && ((e.op == 2 || (e.name.toList == [])) && (e.op == 1 || sameV e.val vZero))

/-- 5.1: a constant's kind -/
def constX (v : Vl) : Int × Int := if goodV v then (v.k, 0) else (0, 40)
theorem constKind_any (v : Vl) (w : World) : Calls Tryz.prog 107 #[agV v] w (VMk (pairII (constX v)) w) := by
  have hg : ∀ W, Calls Tryz.prog 145 #[agV v] W (VMk (.bool (goodV v)) W) := fun W => Good_val v W
  have hcx : constX v = if goodV v then (v.k, 0) else (0, 40) := rfl
  rw [hcx]
  clear hcx
  generalize goodV v = gv at hg ⊢
  have HG := Lib.hid hg
  clear hg
  rcases gv with _ | _
  · go_enter Tryz.func107, Tryz.ntmps107
    go_wp2_with (go_at_call 145; refine (HG.out _).mono ?_; rintro e w1 ⟨rfl, hb1⟩; obtain ⟨hc1, hf1⟩ := bcell hb1)
    exact bodyPost_ret (v := pairII (0, 40)) (by simp [results, Tryz.results107, go_sem]) rfl ⟨rfl, ((Below.refl _ _).alloc (Nat.le_refl _) _).trans (hb1.mono (by simp))⟩
  · go_enter Tryz.func107, Tryz.ntmps107
    go_wp2_with (go_at_call 145; refine (HG.out _).mono ?_; rintro e w1 ⟨rfl, hb1⟩; obtain ⟨hc1, hf1⟩ := bcell hb1)
    exact bodyPost_ret (v := pairII (v.k, 0)) (by simp [results, Tryz.results107, go_sem]) rfl ⟨rfl, ((Below.refl _ _).alloc (Nat.le_refl _) _).trans (hb1.mono (by simp))⟩

/-- place's closure -/
theorem place1_any (p : Nat) (nm fnm : ByteArray) (fk : Int) (A : Option Addr) (n c : Nat) (y : Vl) (w : World) (h : w.cell? ⟨p, 0, none⟩ = some (.string nm)) (hp : p < w.heap.size) :
    Calls Tryz.prog 197 #[.agg #[.string fnm, .int .i64 fk, .slice A n c, .int .i64 y.k, .int .i64 y.i, .bool y.b, .string y.s, .float .f64 y.n], .pointer (some ⟨p, 0, none⟩)] w (VMk (.bool (fnm.toList == nm.toList)) w) := by
  generalize hb : (fnm.toList == nm.toList) = b
  have hne : ¬ w.heap.size = p := by omega
  go_enter Tryz.func197, Tryz.ntmps197
  go_wp2
  go_ret
  exact ⟨rfl, (Below.refl _ _).alloc (Nat.le_refl _) _⟩

set_option maxHeartbeats 1000000 in
/-- where the first field of a name stands -/
theorem eIndexFunc_any (p : Nat) (nm : ByteArray) (A : Option Addr) (c : Nat) (fs : List Fd) (w : World) (h : w.cell? ⟨p, 0, none⟩ = some (.string nm)) (hf : FdK w A c fs) :
    Calls Tryz.prog 66 #[.slice A fs.length c, .func (Fn.func 197) #[] #[.pointer (some ⟨p, 0, none⟩)]] w (VMk (.int .i64 (findX nm fs 0)) w) := by
  have hpl : p < w.heap.size := World.block_lt_of_cell? w _ h
  obtain ⟨h1, h2, h3, h4⟩ := hf
  unfold maxLen at h2
  have hlen : fs.length ≤ 9223372036854775807 := by omega
  have hpc : ∀ (fnm : ByteArray) (fk : Int) (A : Option Addr) (n c : Nat) (y : Vl) (W : World), Below w.heap.size w W → Calls Tryz.prog 197 #[.agg #[.string fnm, .int .i64 fk, .slice A n c, .int .i64 y.k, .int .i64 y.i, .bool y.b, .string y.s, .float .f64 y.n], .pointer (some ⟨p, 0, none⟩)] W (VMk (.bool (fnm.toList == nm.toList)) W) :=
    fun fnm fk A n c y W hb => place1_any p nm fnm fk A n c y W (keepc hb hpl h) (Nat.lt_of_lt_of_le hpl hb.size)
  have HP := Lib.hid hpc
  have H4 := Lib.hid h4
  clear hpc h4 h h1 h2 h3
  have hsf := fun (w : World) (a : Addr) (m : Mode) (b : Nat) => run_store Tryz.prog w a (.float .f64 b) m rfl
  go_enter Tryz.func66, Tryz.ntmps66
  go_wp2
  go_loopw [8] (fun i wr => ∃ k : Nat, k ≤ fs.length ∧ i = .int .i64 k ∧ findX nm (fs.drop k) k = findX nm fs 0 ∧ Below w.heap.size w wr) (fun i _ => fs.length - (intOf i).toNat)
  case atStart => exact ⟨0, Nat.zero_le _, rfl, rfl, Below.refl _ _⟩
  case round =>
    obtain ⟨k, hk, rfl, hfi, hb⟩ := hrel
    by_cases hlt : k < fs.length
    · obtain ⟨ad, A', n', c', y, rfl, hbl, hq⟩ := H4.out k hlt
      obtain ⟨q0, q1, q2, q3, q4, q5, q6, q7⟩ := hq.below hb (by rw [block_add]; exact hbl)
      rw [List.drop_eq_getElem_cons hlt, findX] at hfi
      have hcall := HP.out fs[k].name fs[k].kind A' n' c' y wr hb
      generalize fs[k].name = fnm at *
      generalize fs[k].kind = fk at *
      rcases hd : (fnm.toList == nm.toList) with _ | _
      · rw [hd] at hcall hfi
        rw [if_neg (by decide)] at hfi
        have HC := Lib.hid hcall
        have HF := Lib.hid hfi
        clear hcall hfi hd hq
        go_wp2_with (first
          | (go_at_call 197; refine HC.out.mono ?_; rintro e w1 ⟨rfl, hb1⟩))
        go_roundw
        case rel => exact ⟨k + 1, by omega, by go_num, HF.out, hb.trans (hb1.mono hb.size)⟩
        case measure => simp [intOf]; omega
      · rw [hd] at hcall hfi
        rw [if_pos rfl] at hfi
        have HC := Lib.hid hcall
        have HF := Lib.hid hfi
        clear hcall hfi hd hq
        go_wp2_with (first
          | (go_at_call 197; refine HC.out.mono ?_; rintro e w1 ⟨rfl, hb1⟩))
        go_ret
        exact ⟨ret_int HF.out, hb.trans (hb1.mono hb.size)⟩
    · obtain rfl : k = fs.length := by omega
      rw [List.drop_length, findX] at hfi
      have HF := Lib.hid hfi
      clear hfi
      go_wp2
      go_ret
      exact ⟨ret_int HF.out, hb⟩

theorem place_any (nm : ByteArray) (A : Option Addr) (c : Nat) (fs : List Fd) (w : World) (hf : FdK w A c fs) : Calls Tryz.prog 165 #[.string nm, .slice A fs.length c] w (VMk (.int .i64 (findX nm fs 0)) w) := by
  have hmf : ∀ (fn : Fn) (first cap : Array Value) (w : World), (Instr.makeFunc fn first cap).run Tryz.prog w = .ok (.func fn first cap) w := fun _ _ _ _ => rfl
  have hb : ∀ o, Below w.heap.size w (w.alloc o) := fun o => (Below.refl _ _).alloc (Nat.le_refl _) _
  have hi : ∀ t, Calls Tryz.prog 66 #[.slice A fs.length c, .func (Fn.func 197) #[] #[.pointer (some ⟨w.heap.size, 0, none⟩)]] (w.alloc (.cells #[.string nm] t)) (VMk (.int .i64 (findX nm fs 0)) (w.alloc (.cells #[.string nm] t))) := fun t =>
    eIndexFunc_any w.heap.size nm A c fs _ ((cell_of_row _ _ 0 _ _ (0, 0) (heap_alloc_new w _)).trans rfl) (hf.below (hb _) (Nat.le_refl _))
  have HI := Lib.hid hi
  clear hi hf
  go_enter Tryz.func165, Tryz.ntmps165
  go_wp2_with (go_at_call 66; refine (HI.out _).mono ?_; rintro e w1 ⟨rfl, hb1⟩)
  go_ret
  exact ⟨rfl, (hb _).trans (hb1.mono (by simp))⟩

/-- 5.1: the kind of a name's field -/
def fieldX (nm : ByteArray) (fs : List Fd) : Int × Int := if findX nm fs 0 < 0 then (0, 50) else ((fs[(findX nm fs 0).toNat]?.map Fd.kind).getD 0, 0)
theorem fieldKind_any (nm : ByteArray) (A : Option Addr) (c : Nat) (fs : List Fd) (w : World) (hf : FdK w A c fs) : Calls Tryz.prog 108 #[.string nm, .slice A fs.length c] w (VMk (pairII (fieldX nm fs)) w) := by
  have hp := place_any nm A c fs w hf
  have hat := findX_at nm fs 0
  obtain ⟨h1, h2, h3, h4⟩ := hf
  unfold maxLen at h2
  have hlen : fs.length ≤ 9223372036854775807 := by omega
  unfold fieldX
  generalize findX nm fs 0 = r at hp hat ⊢
  have HP := Lib.hid hp
  by_cases hr : r < 0
  · have hr0 := Lib.hid hat
    rw [if_pos hr]
    clear hp hat h1 h2 h3 h4
    go_enter Tryz.func108, Tryz.ntmps108
    go_wp2_with (go_at_call 165; refine HP.out.mono ?_; rintro e w1 ⟨rfl, hb1⟩)
    exact bodyPost_ret (v := pairII (0, 50)) (by simp [results, Tryz.results108, go_sem]) rfl ⟨rfl, hb1⟩
  · obtain ⟨j, hj, hjl⟩ := hat (by omega)
    rw [Nat.zero_add] at hj
    subst hj
    rw [if_neg hr, Int.toNat_natCast, List.getElem?_eq_getElem hjl]
    show Calls _ _ _ _ (VMk (pairII (fs[j].kind, 0)) w)
    obtain ⟨ad, A', n', c', y, rfl, hbl, hq⟩ := h4 j hjl
    have q1 := fun W (hb : Below w.heap.size w W) => (hq.below hb (by rw [block_add]; exact hbl)).2.1
    generalize fs[j].kind = fk at *
    have Q1 := Lib.hid q1
    have hi : (0 : Int) ≤ (j : Int) ∧ (j : Int) < fs.length := by omega
    clear hp hat h1 h2 h3 h4 hq q1
    go_enter Tryz.func108, Tryz.ntmps108
    go_wp2_with (go_at_call 165; refine HP.out.mono ?_; rintro e w1 ⟨rfl, hb1⟩; have q1 := Q1.out _ hb1)
    exact bodyPost_ret (v := pairII (fk, 0)) (by simp [results, Tryz.results108, go_sem]) rfl ⟨rfl, hb1⟩
end Go.Proofs.YtkhpgejammgolaaGreat

/- Layer 5: is a part's form right, by the program. -/
namespace Go.Proofs.YtkhpgejammgolaaGreat
open Go.RowKit
set_option linter.unusedVariables false
set_option linter.unusedSimpArgs false
set_option maxRecDepth 20000

theorem kidsOf_same (op : Int) (w : World) : Calls Tryz.prog 163 #[.int .i64 op] w fun e w' => e = .returned (.int .i64 (kidsN op)) ∧ w' = w := (kidsOf_any op w).mono fun e w' h => ⟨h.1, h.2.symm⟩
/-- the cells of one that is boxed at block b -/
def CellsX (W : World) (b : Nat) (op : Int) (A : Option Addr) (n c : Nat) (nm : ByteArray) (y : Vl) : Prop :=
  W.cell? ⟨b, 0, none⟩ = some (.int .i64 op) ∧ W.cell? ⟨b, 1, none⟩ = some (.slice A n c) ∧ W.cell? ⟨b, 2, none⟩ = some (.string nm) ∧ W.cell? ⟨b, 3, none⟩ = some (.int .i64 y.k) ∧ W.cell? ⟨b, 4, none⟩ = some (.int .i64 y.i) ∧ W.cell? ⟨b, 5, none⟩ = some (.bool y.b) ∧ W.cell? ⟨b, 6, none⟩ = some (.string y.s) ∧ W.cell? ⟨b, 7, none⟩ = some (.float .f64 y.n)
theorem CellsX.below {W W' : World} {b : Nat} {op : Int} {A : Option Addr} {n c : Nat} {nm : ByteArray} {y : Vl} (h : CellsX W b op A n c nm y) (hb : Below W.heap.size W W') : CellsX W' b op A n c nm y := by
  have hl : b < W.heap.size := World.block_lt_of_cell? W _ h.1
  exact ⟨keepc hb hl h.1, keepc hb hl h.2.1, keepc hb hl h.2.2.1, keepc hb hl h.2.2.2.1, keepc hb hl h.2.2.2.2.1, keepc hb hl h.2.2.2.2.2.1, keepc hb hl h.2.2.2.2.2.2.1, keepc hb hl h.2.2.2.2.2.2.2⟩
theorem CellsX_keep (w W W' : World) (op : Int) (A : Option Addr) (n c : Nat) (nm : ByteArray) (y : Vl) (h : Below w.heap.size w W ∧ CellsX W w.heap.size op A n c nm y) (hb : Below W.heap.size W W') : Below w.heap.size w W' ∧ CellsX W' w.heap.size op A n c nm y :=
  ⟨h.1.trans (hb.mono h.1.size), h.2.below hb⟩
theorem Kid_new (w : World) (op : Int) (A : Option Addr) (n c : Nat) (nm : ByteArray) (y : Vl) : CellsX (w.alloc (bxX op A n c nm y)) w.heap.size op A n c nm y := by
  have h := heap_alloc_new w (bxX op A n c nm y)
  exact ⟨(cell_of_row _ _ 0 _ _ (0, 0) h).trans rfl, (cell_of_row _ _ 1 _ _ (0, 0) h).trans rfl, (cell_of_row _ _ 2 _ _ (0, 0) h).trans rfl, (cell_of_row _ _ 3 _ _ (0, 0) h).trans rfl, (cell_of_row _ _ 4 _ _ (0, 0) h).trans rfl, (cell_of_row _ _ 5 _ _ (0, 0) h).trans rfl, (cell_of_row _ _ 6 _ _ (0, 0) h).trans rfl, (cell_of_row _ _ 7 _ _ (0, 0) h).trans rfl⟩
set_option maxHeartbeats 4000000 in
theorem formed_any (op : Int) (nm : ByteArray) (v : Vl) (n c : Nat) (A : Option Addr) (w : World) : Calls Tryz.prog 106 #[agX op A n c nm v] w (VMk (.bool ((kidsN op == (n : Int)) && ((op == 2 || (nm.toList == [])) && (op == 1 || sameV v vZero)))) w) := by
  have hk := kidsOf_same op
  generalize kidsN op = kn at hk ⊢
  have HK := Lib.hid hk
  clear hk
  have hs : ∀ W, Calls Tryz.prog 164 #[agV v, agV vZero] W (VMk (.bool (sameV v vZero)) W) := fun W => Same_val v vZero W
  generalize sameV v vZero = sv at hs ⊢
  have HS := Lib.hid hs
  clear hs
  have HN := Lib.hid (Kid_new w op A n c nm v)
  have HKP := Lib.hid (fun (W W' : World) (h : Below w.heap.size w W ∧ CellsX W w.heap.size op A n c nm v) (hb : Below W.heap.size W W') => (CellsX_keep w W W' op A n c nm v h hb))
  simp only [CellsX] at HKP
  have hen : (nm.toList == (⟨#[]⟩ : ByteArray).toList) = (nm.toList == []) := by rw [empty_list]
  rcases h1 : (kn == (n : Int)) with _ | _
  · show Calls _ _ _ _ (VMk (.bool false) w)
    go_enter Tryz.func106, Tryz.ntmps106
    go_wp2
    go_quiet ((go_at_call 163; exact Calls.quiet_of_same (HK.out _)))
    go_wp2
    go_ret
    exact ⟨rfl, below_drewN ((Below.refl _ _).alloc (Nat.le_refl _) _) _⟩
  · rcases h2 : (op == 2) with _ | _
    · rcases h3 : (nm.toList == []) with _ | _
      · show Calls _ _ _ _ (VMk (.bool false) w)
        rw [h3] at hen
        go_enter Tryz.func106, Tryz.ntmps106
        go_wp2
        go_quiet ((go_at_call 163; exact Calls.quiet_of_same (HK.out _)))
        go_wp2
        go_ret
        exact ⟨rfl, below_drewN ((Below.refl _ _).alloc (Nat.le_refl _) _) _⟩
      · rw [h3] at hen
        rcases h4 : (op == 1) with _ | _
        · show Calls _ _ _ _ (VMk (.bool sv) w)
          go_enter Tryz.func106, Tryz.ntmps106
          go_wp2
          refine wp_region_held_drew (S := (fun W => Below w.heap.size w W ∧ W.cell? ⟨w.heap.size, 0, none⟩ = some (.int .i64 op) ∧ W.cell? ⟨w.heap.size, 1, none⟩ = some (.slice A n c) ∧ W.cell? ⟨w.heap.size, 2, none⟩ = some (.string nm) ∧ W.cell? ⟨w.heap.size, 3, none⟩ = some (.int .i64 v.k) ∧ W.cell? ⟨w.heap.size, 4, none⟩ = some (.int .i64 v.i) ∧ W.cell? ⟨w.heap.size, 5, none⟩ = some (.bool v.b) ∧ W.cell? ⟨w.heap.size, 6, none⟩ = some (.string v.s) ∧ W.cell? ⟨w.heap.size, 7, none⟩ = some (.float .f64 v.n))) (by kernel_rfl) (⟨((Below.refl _ _).alloc (Nat.le_refl _) _).drew, HN.out.1, HN.out.2.1, HN.out.2.2.1, HN.out.2.2.2.1, HN.out.2.2.2.2.1, HN.out.2.2.2.2.2.1, HN.out.2.2.2.2.2.2.1, HN.out.2.2.2.2.2.2.2⟩) (fun hHeld => ?_)
          refine wpAnyH_take (i := 0) (oi := ?oi1) (v := ?v1) ?hi1 (by kernel_rfl) (by kernel_rfl) (by kernel_rfl) ?hQ1 (Or.inl ⟨?hw1, ?hy1⟩) (by assumption) ?rest1
          case hi1 => (simp only [gA, gB, gC]; rfl)
          case hQ1 => exact fun _ _ _ h => h
          case hw1 => rfl
          case hy1 => (intro w hSw; (try dsimp only at hSw); go_simp; try with_reducible rfl)
          (try simp only [Act.put, sA, sB, sC])
          refine wpAnyH_take (i := 1) (oi := ?oi2) (v := ?v2) ?hi2 (by kernel_rfl) (by kernel_rfl) (by kernel_rfl) ?hQ2 (Or.inl ⟨?hw2, ?hy2⟩) (by assumption) ?rest2
          case hi2 => (simp only [gA, gB, gC]; rfl)
          case hQ2 => exact fun _ _ _ h => h
          case hw2 => rfl
          case hy2 => (intro w hSw; (try dsimp only at hSw); go_simp; try with_reducible rfl)
          (try simp only [Act.put, sA, sB, sC])
          refine wpAnyH_take (i := 3) (oi := ?oi3) (v := ?v3) ?hi3 (by kernel_rfl) (by kernel_rfl) (by kernel_rfl) ?hQ3 (Or.inl ⟨?hw3, ?hy3⟩) (by assumption) ?rest3
          case hi3 => (simp only [gA, gB, gC]; rfl)
          case hQ3 => exact fun _ _ _ h => h
          case hw3 => rfl
          case hy3 => (intro w hSw; (try dsimp only at hSw); go_simp; try with_reducible rfl)
          (try simp only [Act.put, sA, sB, sC])
          refine wpAnyH_take (i := 4) (oi := ?oi4) (v := ?v4) ?hi4 (by kernel_rfl) (by kernel_rfl) (by kernel_rfl) ?hQ4 (Or.inl ⟨?hw4, ?hy4⟩) (by assumption) ?rest4
          case hi4 => (simp only [gA, gB, gC]; rfl)
          case hQ4 => exact fun _ _ _ h => h
          case hw4 => rfl
          case hy4 => (intro w hSw; (try dsimp only at hSw); go_simp; try with_reducible rfl)
          (try simp only [Act.put, sA, sB, sC])
          refine wpAnyH_take (i := 5) (oi := ?oi5) (v := ?v5) ?hi5 (by kernel_rfl) (by kernel_rfl) (by kernel_rfl) ?hQ5 (Or.inl ⟨?hw5, ?hy5⟩) (by assumption) ?rest5
          case hi5 => (simp only [gA, gB, gC]; rfl)
          case hQ5 => exact fun _ _ _ h => h
          case hw5 => rfl
          case hy5 => (intro w hSw; (try dsimp only at hSw); go_simp; try with_reducible rfl)
          (try simp only [Act.put, sA, sB, sC])
          refine wpAnyH_ready (rs := [2]) (by kernel_rfl) (by simp) ?_
          refine AllReadyH.cons (o := ?o6) ?ho6 (fun K hK => ?st6) AllReadyH.nil
          case ho6 => (simp only [gA, gB, gC]; rfl)
          go_simp
          refine (HK.out _).mono ?_; rintro e wK ⟨rfl, rfl⟩
          refine hK.out _ _ ?_ (fun hHeld => ?_)
          · (try dsimp only); (first | assumption | exact HKP.out _ _ (by assumption) hbA)
          clear hK K
          (try simp only [Act.put, sA, sB, sC])
          refine wpAnyH_take (i := 6) (oi := ?oi7) (v := ?v7) ?hi7 (by kernel_rfl) (by kernel_rfl) (by kernel_rfl) ?hQ7 (Or.inl ⟨?hw7, ?hy7⟩) (by assumption) ?rest7
          case hi7 => (simp only [gA, gB, gC]; rfl)
          case hQ7 => exact fun _ _ _ h => h
          case hw7 => rfl
          case hy7 => (intro w hSw; (try dsimp only at hSw); go_simp; try with_reducible rfl)
          (try simp only [Act.put, sA, sB, sC])
          refine wpAnyH_take (i := 7) (oi := ?oi8) (v := ?v8) ?hi8 (by kernel_rfl) (by kernel_rfl) (by kernel_rfl) ?hQ8 (Or.inl ⟨?hw8, ?hy8⟩) (by assumption) ?rest8
          case hi8 => (simp only [gA, gB, gC]; rfl)
          case hQ8 => exact fun _ _ _ h => h
          case hw8 => rfl
          case hy8 => (intro w hSw; (try dsimp only at hSw); go_simp; try with_reducible rfl)
          (try simp only [Act.put, sA, sB, sC])
          refine wpAnyH_take (i := 8) (oi := ?oi9) (v := ?v9) ?hi9 (by kernel_rfl) (by kernel_rfl) (by kernel_rfl) ?hQ9 (Or.inl ⟨?hw9, ?hy9⟩) (by assumption) ?rest9
          case hi9 => (simp only [gA, gB, gC]; rfl)
          case hQ9 => exact fun _ _ _ h => h
          case hw9 => rfl
          case hy9 => (intro w hSw; (try dsimp only at hSw); go_simp; try with_reducible rfl)
          (try simp only [Act.put, sA, sB, sC])
          refine wpAnyH_take (i := 9) (oi := ?oi10) (v := ?v10) ?hi10 (by kernel_rfl) (by kernel_rfl) (by kernel_rfl) ?hQ10 (Or.inl ⟨?hw10, ?hy10⟩) (by assumption) ?rest10
          case hi10 => (simp only [gA, gB, gC]; rfl)
          case hQ10 => exact fun _ _ _ h => h
          case hw10 => rfl
          case hy10 => (intro w hSw; (try dsimp only at hSw); go_simp; try with_reducible rfl)
          (try simp only [Act.put, sA, sB, sC])
          refine wpAnyH_take (i := 10) (oi := ?oi11) (v := ?v11) ?hi11 (by kernel_rfl) (by kernel_rfl) (by kernel_rfl) ?hQ11 (Or.inl ⟨?hw11, ?hy11⟩) (by assumption) ?rest11
          case hi11 => (simp only [gA, gB, gC]; rfl)
          case hQ11 => exact fun _ _ _ h => h
          case hw11 => rfl
          case hy11 => (intro w hSw; (try dsimp only at hSw); go_simp; try with_reducible rfl)
          (try simp only [Act.put, sA, sB, sC])
          refine wpAnyH_take (i := 11) (oi := ?oi12) (v := ?v12) ?hi12 (by kernel_rfl) (by kernel_rfl) (by kernel_rfl) ?hQ12 (Or.inl ⟨?hw12, ?hy12⟩) (by assumption) ?rest12
          case hi12 => (simp only [gA, gB, gC]; rfl)
          case hQ12 => exact fun _ _ _ h => h
          case hw12 => rfl
          case hy12 => (intro w hSw; (try dsimp only at hSw); go_simp; try with_reducible rfl)
          (try simp only [Act.put, sA, sB, sC])
          refine wpAnyH_take (i := 12) (oi := ?oi13) (v := ?v13) ?hi13 (by kernel_rfl) (by kernel_rfl) (by kernel_rfl) ?hQ13 (Or.inl ⟨?hw13, ?hy13⟩) (by assumption) ?rest13
          case hi13 => (simp only [gA, gB, gC]; rfl)
          case hQ13 => exact fun _ _ _ h => h
          case hw13 => rfl
          case hy13 => (intro w hSw; (try dsimp only at hSw); go_simp; try with_reducible rfl)
          (try simp only [Act.put, sA, sB, sC])
          refine wpAnyH_take (i := 13) (oi := ?oi14) (v := ?v14) ?hi14 (by kernel_rfl) (by kernel_rfl) (by kernel_rfl) ?hQ14 (Or.inl ⟨?hw14, ?hy14⟩) (by assumption) ?rest14
          case hi14 => (simp only [gA, gB, gC]; rfl)
          case hQ14 => exact fun _ _ _ h => h
          case hw14 => rfl
          case hy14 => (intro w hSw; (try dsimp only at hSw); go_simp; try with_reducible rfl)
          (try simp only [Act.put, sA, sB, sC])
          refine wpAnyH_take (i := 14) (oi := ?oi15) (v := ?v15) ?hi15 (by kernel_rfl) (by kernel_rfl) (by kernel_rfl) ?hQ15 (Or.inl ⟨?hw15, ?hy15⟩) (by assumption) ?rest15
          case hi15 => (simp only [gA, gB, gC]; rfl)
          case hQ15 => exact fun _ _ _ h => h
          case hw15 => rfl
          case hy15 => (intro w hSw; (try dsimp only at hSw); go_simp; try with_reducible rfl)
          (try simp only [Act.put, sA, sB, sC])
          refine wpAnyH_take (i := 15) (oi := ?oi16) (v := ?v16) ?hi16 (by kernel_rfl) (by kernel_rfl) (by kernel_rfl) ?hQ16 (Or.inl ⟨?hw16, ?hy16⟩) (by assumption) ?rest16
          case hi16 => (simp only [gA, gB, gC]; rfl)
          case hQ16 => exact fun _ _ _ h => h
          case hw16 => rfl
          case hy16 => (intro w hSw; (try dsimp only at hSw); go_simp; try with_reducible rfl)
          (try simp only [Act.put, sA, sB, sC])
          refine wpAnyH_take (i := 16) (oi := ?oi17) (v := ?v17) ?hi17 (by kernel_rfl) (by kernel_rfl) (by kernel_rfl) ?hQ17 (Or.inl ⟨?hw17, ?hy17⟩) (by assumption) ?rest17
          case hi17 => (simp only [gA, gB, gC]; rfl)
          case hQ17 => exact fun _ _ _ h => h
          case hw17 => rfl
          case hy17 => (intro w hSw; (try dsimp only at hSw); go_simp; try with_reducible rfl)
          (try simp only [Act.put, sA, sB, sC])
          refine wpAnyH_take (i := 17) (oi := ?oi18) (v := ?v18) ?hi18 (by kernel_rfl) (by kernel_rfl) (by kernel_rfl) ?hQ18 (Or.inl ⟨?hw18, ?hy18⟩) (by assumption) ?rest18
          case hi18 => (simp only [gA, gB, gC]; rfl)
          case hQ18 => exact fun _ _ _ h => h
          case hw18 => rfl
          case hy18 => (intro w hSw; (try dsimp only at hSw); go_simp; try with_reducible rfl)
          (try simp only [Act.put, sA, sB, sC])
          refine wpAnyH_take (i := 18) (oi := ?oi19) (v := ?v19) ?hi19 (by kernel_rfl) (by kernel_rfl) (by kernel_rfl) ?hQ19 (Or.inl ⟨?hw19, ?hy19⟩) (by assumption) ?rest19
          case hi19 => (simp only [gA, gB, gC]; rfl)
          case hQ19 => exact fun _ _ _ h => h
          case hw19 => rfl
          case hy19 => (intro w hSw; (try dsimp only at hSw); go_simp; try with_reducible rfl)
          (try simp only [Act.put, sA, sB, sC])
          refine wpAnyH_take (i := 19) (oi := ?oi20) (v := ?v20) ?hi20 (by kernel_rfl) (by kernel_rfl) (by kernel_rfl) ?hQ20 (Or.inl ⟨?hw20, ?hy20⟩) (by assumption) ?rest20
          case hi20 => (simp only [gA, gB, gC]; rfl)
          case hQ20 => exact fun _ _ _ h => h
          case hw20 => rfl
          case hy20 => (intro w hSw; (try dsimp only at hSw); go_simp; try with_reducible rfl)
          (try simp only [Act.put, sA, sB, sC])
          refine wpAnyH_take (i := 20) (oi := ?oi21) (v := ?v21) ?hi21 (by kernel_rfl) (by kernel_rfl) (by kernel_rfl) ?hQ21 (Or.inl ⟨?hw21, ?hy21⟩) (by assumption) ?rest21
          case hi21 => (simp only [gA, gB, gC]; rfl)
          case hQ21 => exact fun _ _ _ h => h
          case hw21 => rfl
          case hy21 => (intro w hSw; (try dsimp only at hSw); go_simp; try with_reducible rfl)
          (try simp only [Act.put, sA, sB, sC])
          refine wpAnyH_take (i := 21) (oi := ?oi22) (v := ?v22) ?hi22 (by kernel_rfl) (by kernel_rfl) (by kernel_rfl) ?hQ22 (Or.inl ⟨?hw22, ?hy22⟩) (by assumption) ?rest22
          case hi22 => (simp only [gA, gB, gC]; rfl)
          case hQ22 => exact fun _ _ _ h => h
          case hw22 => rfl
          case hy22 => (intro w hSw; (try dsimp only at hSw); go_simp; try with_reducible rfl)
          (try simp only [Act.put, sA, sB, sC])
          refine wpAnyH_take (i := 22) (oi := ?oi23) (v := ?v23) ?hi23 (by kernel_rfl) (by kernel_rfl) (by kernel_rfl) ?hQ23 (Or.inl ⟨?hw23, ?hy23⟩) (by assumption) ?rest23
          case hi23 => (simp only [gA, gB, gC]; rfl)
          case hQ23 => exact fun _ _ _ h => h
          case hw23 => rfl
          case hy23 => (intro w hSw; (try dsimp only at hSw); go_simp; try with_reducible rfl)
          (try simp only [Act.put, sA, sB, sC])
          refine wpAnyH_take (i := 23) (oi := ?oi24) (v := ?v24) ?hi24 (by kernel_rfl) (by kernel_rfl) (by kernel_rfl) ?hQ24 (Or.inl ⟨?hw24, ?hy24⟩) (by assumption) ?rest24
          case hi24 => (simp only [gA, gB, gC]; rfl)
          case hQ24 => exact fun _ _ _ h => h
          case hw24 => rfl
          case hy24 => (intro w hSw; (try dsimp only at hSw); go_simp; try with_reducible rfl)
          (try simp only [Act.put, sA, sB, sC])
          refine wpAnyH_take (i := 24) (oi := ?oi25) (v := ?v25) ?hi25 (by kernel_rfl) (by kernel_rfl) (by kernel_rfl) ?hQ25 (Or.inl ⟨?hw25, ?hy25⟩) (by assumption) ?rest25
          case hi25 => (simp only [gA, gB, gC]; rfl)
          case hQ25 => exact fun _ _ _ h => h
          case hw25 => rfl
          case hy25 => (intro w hSw; (try dsimp only at hSw); go_simp; try with_reducible rfl)
          (try simp only [Act.put, sA, sB, sC])
          refine wpAnyH_ready (rs := [25]) (by kernel_rfl) (by simp) ?_
          refine AllReadyH.cons (o := ?o26) ?ho26 (fun K hK => ?st26) AllReadyH.nil
          case ho26 => (simp only [gA, gB, gC]; rfl)
          go_simp
          refine (HS.out _).mono ?_; rintro e wA ⟨rfl, hbA⟩
          refine hK.out _ _ ?_ (fun hHeld => ?_)
          · (try dsimp only); (first | assumption | exact HKP.out _ _ (by assumption) hbA)
          clear hK K
          (try simp only [Act.put, sA, sB, sC])
          refine wpAnyH_take (i := 26) (oi := ?oi27) (v := ?v27) ?hi27 (by kernel_rfl) (by kernel_rfl) (by kernel_rfl) ?hQ27 (Or.inl ⟨?hw27, ?hy27⟩) (by assumption) ?rest27
          case hi27 => (simp only [gA, gB, gC]; rfl)
          case hQ27 => exact fun _ _ _ h => h
          case hw27 => rfl
          case hy27 => (intro w hSw; (try dsimp only at hSw); go_simp; try with_reducible rfl)
          (try simp only [Act.put, sA, sB, sC])
          refine wpAnyH_take (i := 27) (oi := ?oi28) (v := ?v28) ?hi28 (by kernel_rfl) (by kernel_rfl) (by kernel_rfl) ?hQ28 (Or.inl ⟨?hw28, ?hy28⟩) (by assumption) ?rest28
          case hi28 => (simp only [gA, gB, gC]; rfl)
          case hQ28 => exact fun _ _ _ h => h
          case hw28 => rfl
          case hy28 => (intro w hSw; (try dsimp only at hSw); go_simp; try with_reducible rfl)
          (try simp only [Act.put, sA, sB, sC])
          refine wpAnyH_take (i := 28) (oi := ?oi29) (v := ?v29) ?hi29 (by kernel_rfl) (by kernel_rfl) (by kernel_rfl) ?hQ29 (Or.inl ⟨?hw29, ?hy29⟩) (by assumption) ?rest29
          case hi29 => (simp only [gA, gB, gC]; rfl)
          case hQ29 => exact fun _ _ _ h => h
          case hw29 => rfl
          case hy29 => (intro w hSw; (try dsimp only at hSw); go_simp; try with_reducible rfl)
          (try simp only [Act.put, sA, sB, sC])
          refine wpAnyH_done (by kernel_rfl) ?_ _
          go_wp2
          go_ret
          exact ⟨rfl, (And.left hHeld)⟩
        · show Calls _ _ _ _ (VMk (.bool true) w)
          go_enter Tryz.func106, Tryz.ntmps106
          go_wp2
          go_quiet ((go_at_call 163; exact Calls.quiet_of_same (HK.out _)))
          go_wp2
          go_ret
          exact ⟨rfl, below_drewN ((Below.refl _ _).alloc (Nat.le_refl _) _) _⟩
    · have h4 : (op == 1) = false := by
        have : op = 2 := by simpa using h2
        subst this; rfl
      rw [h4]
      show Calls _ _ _ _ (VMk (.bool sv) w)
      go_enter Tryz.func106, Tryz.ntmps106
      go_wp2
      refine wp_region_held_drew (S := (fun W => Below w.heap.size w W ∧ W.cell? ⟨w.heap.size, 0, none⟩ = some (.int .i64 op) ∧ W.cell? ⟨w.heap.size, 1, none⟩ = some (.slice A n c) ∧ W.cell? ⟨w.heap.size, 2, none⟩ = some (.string nm) ∧ W.cell? ⟨w.heap.size, 3, none⟩ = some (.int .i64 v.k) ∧ W.cell? ⟨w.heap.size, 4, none⟩ = some (.int .i64 v.i) ∧ W.cell? ⟨w.heap.size, 5, none⟩ = some (.bool v.b) ∧ W.cell? ⟨w.heap.size, 6, none⟩ = some (.string v.s) ∧ W.cell? ⟨w.heap.size, 7, none⟩ = some (.float .f64 v.n))) (by kernel_rfl) (⟨((Below.refl _ _).alloc (Nat.le_refl _) _).drew, HN.out.1, HN.out.2.1, HN.out.2.2.1, HN.out.2.2.2.1, HN.out.2.2.2.2.1, HN.out.2.2.2.2.2.1, HN.out.2.2.2.2.2.2.1, HN.out.2.2.2.2.2.2.2⟩) (fun hHeld => ?_)
      refine wpAnyH_take (i := 0) (oi := ?oi30) (v := ?v30) ?hi30 (by kernel_rfl) (by kernel_rfl) (by kernel_rfl) ?hQ30 (Or.inl ⟨?hw30, ?hy30⟩) (by assumption) ?rest30
      case hi30 => (simp only [gA, gB, gC]; rfl)
      case hQ30 => exact fun _ _ _ h => h
      case hw30 => rfl
      case hy30 => (intro w hSw; (try dsimp only at hSw); go_simp; try with_reducible rfl)
      (try simp only [Act.put, sA, sB, sC])
      refine wpAnyH_take (i := 1) (oi := ?oi31) (v := ?v31) ?hi31 (by kernel_rfl) (by kernel_rfl) (by kernel_rfl) ?hQ31 (Or.inl ⟨?hw31, ?hy31⟩) (by assumption) ?rest31
      case hi31 => (simp only [gA, gB, gC]; rfl)
      case hQ31 => exact fun _ _ _ h => h
      case hw31 => rfl
      case hy31 => (intro w hSw; (try dsimp only at hSw); go_simp; try with_reducible rfl)
      (try simp only [Act.put, sA, sB, sC])
      refine wpAnyH_take (i := 3) (oi := ?oi32) (v := ?v32) ?hi32 (by kernel_rfl) (by kernel_rfl) (by kernel_rfl) ?hQ32 (Or.inl ⟨?hw32, ?hy32⟩) (by assumption) ?rest32
      case hi32 => (simp only [gA, gB, gC]; rfl)
      case hQ32 => exact fun _ _ _ h => h
      case hw32 => rfl
      case hy32 => (intro w hSw; (try dsimp only at hSw); go_simp; try with_reducible rfl)
      (try simp only [Act.put, sA, sB, sC])
      refine wpAnyH_take (i := 4) (oi := ?oi33) (v := ?v33) ?hi33 (by kernel_rfl) (by kernel_rfl) (by kernel_rfl) ?hQ33 (Or.inl ⟨?hw33, ?hy33⟩) (by assumption) ?rest33
      case hi33 => (simp only [gA, gB, gC]; rfl)
      case hQ33 => exact fun _ _ _ h => h
      case hw33 => rfl
      case hy33 => (intro w hSw; (try dsimp only at hSw); go_simp; try with_reducible rfl)
      (try simp only [Act.put, sA, sB, sC])
      refine wpAnyH_take (i := 5) (oi := ?oi34) (v := ?v34) ?hi34 (by kernel_rfl) (by kernel_rfl) (by kernel_rfl) ?hQ34 (Or.inl ⟨?hw34, ?hy34⟩) (by assumption) ?rest34
      case hi34 => (simp only [gA, gB, gC]; rfl)
      case hQ34 => exact fun _ _ _ h => h
      case hw34 => rfl
      case hy34 => (intro w hSw; (try dsimp only at hSw); go_simp; try with_reducible rfl)
      (try simp only [Act.put, sA, sB, sC])
      refine wpAnyH_ready (rs := [2]) (by kernel_rfl) (by simp) ?_
      refine AllReadyH.cons (o := ?o35) ?ho35 (fun K hK => ?st35) AllReadyH.nil
      case ho35 => (simp only [gA, gB, gC]; rfl)
      go_simp
      refine (HK.out _).mono ?_; rintro e wK ⟨rfl, rfl⟩
      refine hK.out _ _ ?_ (fun hHeld => ?_)
      · (try dsimp only); (first | assumption | exact HKP.out _ _ (by assumption) hbA)
      clear hK K
      (try simp only [Act.put, sA, sB, sC])
      refine wpAnyH_take (i := 6) (oi := ?oi36) (v := ?v36) ?hi36 (by kernel_rfl) (by kernel_rfl) (by kernel_rfl) ?hQ36 (Or.inl ⟨?hw36, ?hy36⟩) (by assumption) ?rest36
      case hi36 => (simp only [gA, gB, gC]; rfl)
      case hQ36 => exact fun _ _ _ h => h
      case hw36 => rfl
      case hy36 => (intro w hSw; (try dsimp only at hSw); go_simp; try with_reducible rfl)
      (try simp only [Act.put, sA, sB, sC])
      refine wpAnyH_take (i := 7) (oi := ?oi37) (v := ?v37) ?hi37 (by kernel_rfl) (by kernel_rfl) (by kernel_rfl) ?hQ37 (Or.inl ⟨?hw37, ?hy37⟩) (by assumption) ?rest37
      case hi37 => (simp only [gA, gB, gC]; rfl)
      case hQ37 => exact fun _ _ _ h => h
      case hw37 => rfl
      case hy37 => (intro w hSw; (try dsimp only at hSw); go_simp; try with_reducible rfl)
      (try simp only [Act.put, sA, sB, sC])
      refine wpAnyH_take (i := 8) (oi := ?oi38) (v := ?v38) ?hi38 (by kernel_rfl) (by kernel_rfl) (by kernel_rfl) ?hQ38 (Or.inl ⟨?hw38, ?hy38⟩) (by assumption) ?rest38
      case hi38 => (simp only [gA, gB, gC]; rfl)
      case hQ38 => exact fun _ _ _ h => h
      case hw38 => rfl
      case hy38 => (intro w hSw; (try dsimp only at hSw); go_simp; try with_reducible rfl)
      (try simp only [Act.put, sA, sB, sC])
      refine wpAnyH_take (i := 9) (oi := ?oi39) (v := ?v39) ?hi39 (by kernel_rfl) (by kernel_rfl) (by kernel_rfl) ?hQ39 (Or.inl ⟨?hw39, ?hy39⟩) (by assumption) ?rest39
      case hi39 => (simp only [gA, gB, gC]; rfl)
      case hQ39 => exact fun _ _ _ h => h
      case hw39 => rfl
      case hy39 => (intro w hSw; (try dsimp only at hSw); go_simp; try with_reducible rfl)
      (try simp only [Act.put, sA, sB, sC])
      refine wpAnyH_take (i := 10) (oi := ?oi40) (v := ?v40) ?hi40 (by kernel_rfl) (by kernel_rfl) (by kernel_rfl) ?hQ40 (Or.inl ⟨?hw40, ?hy40⟩) (by assumption) ?rest40
      case hi40 => (simp only [gA, gB, gC]; rfl)
      case hQ40 => exact fun _ _ _ h => h
      case hw40 => rfl
      case hy40 => (intro w hSw; (try dsimp only at hSw); go_simp; try with_reducible rfl)
      (try simp only [Act.put, sA, sB, sC])
      refine wpAnyH_take (i := 11) (oi := ?oi41) (v := ?v41) ?hi41 (by kernel_rfl) (by kernel_rfl) (by kernel_rfl) ?hQ41 (Or.inl ⟨?hw41, ?hy41⟩) (by assumption) ?rest41
      case hi41 => (simp only [gA, gB, gC]; rfl)
      case hQ41 => exact fun _ _ _ h => h
      case hw41 => rfl
      case hy41 => (intro w hSw; (try dsimp only at hSw); go_simp; try with_reducible rfl)
      (try simp only [Act.put, sA, sB, sC])
      refine wpAnyH_take (i := 12) (oi := ?oi42) (v := undef) ?hi42 (by kernel_rfl) (by kernel_rfl) (by kernel_rfl) ?hQ42 (Or.inr ⟨?hw42, rfl⟩) (by assumption) ?rest42
      case hi42 => (simp only [gA, gB, gC]; rfl)
      case hQ42 => exact fun _ _ _ h => h
      case hw42 => rfl
      (try simp only [Act.put, sA, sB, sC])
      refine wpAnyH_take (i := 13) (oi := ?oi43) (v := undef) ?hi43 (by kernel_rfl) (by kernel_rfl) (by kernel_rfl) ?hQ43 (Or.inr ⟨?hw43, rfl⟩) (by assumption) ?rest43
      case hi43 => (simp only [gA, gB, gC]; rfl)
      case hQ43 => exact fun _ _ _ h => h
      case hw43 => rfl
      (try simp only [Act.put, sA, sB, sC])
      refine wpAnyH_take (i := 14) (oi := ?oi44) (v := undef) ?hi44 (by kernel_rfl) (by kernel_rfl) (by kernel_rfl) ?hQ44 (Or.inr ⟨?hw44, rfl⟩) (by assumption) ?rest44
      case hi44 => (simp only [gA, gB, gC]; rfl)
      case hQ44 => exact fun _ _ _ h => h
      case hw44 => rfl
      (try simp only [Act.put, sA, sB, sC])
      refine wpAnyH_take (i := 15) (oi := ?oi45) (v := ?v45) ?hi45 (by kernel_rfl) (by kernel_rfl) (by kernel_rfl) ?hQ45 (Or.inl ⟨?hw45, ?hy45⟩) (by assumption) ?rest45
      case hi45 => (simp only [gA, gB, gC]; rfl)
      case hQ45 => exact fun _ _ _ h => h
      case hw45 => rfl
      case hy45 => (intro w hSw; (try dsimp only at hSw); go_simp; try with_reducible rfl)
      (try simp only [Act.put, sA, sB, sC])
      refine wpAnyH_take (i := 16) (oi := ?oi46) (v := ?v46) ?hi46 (by kernel_rfl) (by kernel_rfl) (by kernel_rfl) ?hQ46 (Or.inl ⟨?hw46, ?hy46⟩) (by assumption) ?rest46
      case hi46 => (simp only [gA, gB, gC]; rfl)
      case hQ46 => exact fun _ _ _ h => h
      case hw46 => rfl
      case hy46 => (intro w hSw; (try dsimp only at hSw); go_simp; try with_reducible rfl)
      (try simp only [Act.put, sA, sB, sC])
      refine wpAnyH_take (i := 17) (oi := ?oi47) (v := ?v47) ?hi47 (by kernel_rfl) (by kernel_rfl) (by kernel_rfl) ?hQ47 (Or.inl ⟨?hw47, ?hy47⟩) (by assumption) ?rest47
      case hi47 => (simp only [gA, gB, gC]; rfl)
      case hQ47 => exact fun _ _ _ h => h
      case hw47 => rfl
      case hy47 => (intro w hSw; (try dsimp only at hSw); go_simp; try with_reducible rfl)
      (try simp only [Act.put, sA, sB, sC])
      refine wpAnyH_take (i := 18) (oi := ?oi48) (v := ?v48) ?hi48 (by kernel_rfl) (by kernel_rfl) (by kernel_rfl) ?hQ48 (Or.inl ⟨?hw48, ?hy48⟩) (by assumption) ?rest48
      case hi48 => (simp only [gA, gB, gC]; rfl)
      case hQ48 => exact fun _ _ _ h => h
      case hw48 => rfl
      case hy48 => (intro w hSw; (try dsimp only at hSw); go_simp; try with_reducible rfl)
      (try simp only [Act.put, sA, sB, sC])
      refine wpAnyH_take (i := 19) (oi := ?oi49) (v := ?v49) ?hi49 (by kernel_rfl) (by kernel_rfl) (by kernel_rfl) ?hQ49 (Or.inl ⟨?hw49, ?hy49⟩) (by assumption) ?rest49
      case hi49 => (simp only [gA, gB, gC]; rfl)
      case hQ49 => exact fun _ _ _ h => h
      case hw49 => rfl
      case hy49 => (intro w hSw; (try dsimp only at hSw); go_simp; try with_reducible rfl)
      (try simp only [Act.put, sA, sB, sC])
      refine wpAnyH_take (i := 20) (oi := ?oi50) (v := ?v50) ?hi50 (by kernel_rfl) (by kernel_rfl) (by kernel_rfl) ?hQ50 (Or.inl ⟨?hw50, ?hy50⟩) (by assumption) ?rest50
      case hi50 => (simp only [gA, gB, gC]; rfl)
      case hQ50 => exact fun _ _ _ h => h
      case hw50 => rfl
      case hy50 => (intro w hSw; (try dsimp only at hSw); go_simp; try with_reducible rfl)
      (try simp only [Act.put, sA, sB, sC])
      refine wpAnyH_take (i := 21) (oi := ?oi51) (v := ?v51) ?hi51 (by kernel_rfl) (by kernel_rfl) (by kernel_rfl) ?hQ51 (Or.inl ⟨?hw51, ?hy51⟩) (by assumption) ?rest51
      case hi51 => (simp only [gA, gB, gC]; rfl)
      case hQ51 => exact fun _ _ _ h => h
      case hw51 => rfl
      case hy51 => (intro w hSw; (try dsimp only at hSw); go_simp; try with_reducible rfl)
      (try simp only [Act.put, sA, sB, sC])
      refine wpAnyH_take (i := 22) (oi := ?oi52) (v := ?v52) ?hi52 (by kernel_rfl) (by kernel_rfl) (by kernel_rfl) ?hQ52 (Or.inl ⟨?hw52, ?hy52⟩) (by assumption) ?rest52
      case hi52 => (simp only [gA, gB, gC]; rfl)
      case hQ52 => exact fun _ _ _ h => h
      case hw52 => rfl
      case hy52 => (intro w hSw; (try dsimp only at hSw); go_simp; try with_reducible rfl)
      (try simp only [Act.put, sA, sB, sC])
      refine wpAnyH_take (i := 23) (oi := ?oi53) (v := ?v53) ?hi53 (by kernel_rfl) (by kernel_rfl) (by kernel_rfl) ?hQ53 (Or.inl ⟨?hw53, ?hy53⟩) (by assumption) ?rest53
      case hi53 => (simp only [gA, gB, gC]; rfl)
      case hQ53 => exact fun _ _ _ h => h
      case hw53 => rfl
      case hy53 => (intro w hSw; (try dsimp only at hSw); go_simp; try with_reducible rfl)
      (try simp only [Act.put, sA, sB, sC])
      refine wpAnyH_take (i := 24) (oi := ?oi54) (v := ?v54) ?hi54 (by kernel_rfl) (by kernel_rfl) (by kernel_rfl) ?hQ54 (Or.inl ⟨?hw54, ?hy54⟩) (by assumption) ?rest54
      case hi54 => (simp only [gA, gB, gC]; rfl)
      case hQ54 => exact fun _ _ _ h => h
      case hw54 => rfl
      case hy54 => (intro w hSw; (try dsimp only at hSw); go_simp; try with_reducible rfl)
      (try simp only [Act.put, sA, sB, sC])
      refine wpAnyH_ready (rs := [25]) (by kernel_rfl) (by simp) ?_
      refine AllReadyH.cons (o := ?o55) ?ho55 (fun K hK => ?st55) AllReadyH.nil
      case ho55 => (simp only [gA, gB, gC]; rfl)
      go_simp
      refine (HS.out _).mono ?_; rintro e wA ⟨rfl, hbA⟩
      refine hK.out _ _ ?_ (fun hHeld => ?_)
      · (try dsimp only); (first | assumption | exact HKP.out _ _ (by assumption) hbA)
      clear hK K
      (try simp only [Act.put, sA, sB, sC])
      refine wpAnyH_take (i := 26) (oi := ?oi56) (v := ?v56) ?hi56 (by kernel_rfl) (by kernel_rfl) (by kernel_rfl) ?hQ56 (Or.inl ⟨?hw56, ?hy56⟩) (by assumption) ?rest56
      case hi56 => (simp only [gA, gB, gC]; rfl)
      case hQ56 => exact fun _ _ _ h => h
      case hw56 => rfl
      case hy56 => (intro w hSw; (try dsimp only at hSw); go_simp; try with_reducible rfl)
      (try simp only [Act.put, sA, sB, sC])
      refine wpAnyH_take (i := 27) (oi := ?oi57) (v := ?v57) ?hi57 (by kernel_rfl) (by kernel_rfl) (by kernel_rfl) ?hQ57 (Or.inl ⟨?hw57, ?hy57⟩) (by assumption) ?rest57
      case hi57 => (simp only [gA, gB, gC]; rfl)
      case hQ57 => exact fun _ _ _ h => h
      case hw57 => rfl
      case hy57 => (intro w hSw; (try dsimp only at hSw); go_simp; try with_reducible rfl)
      (try simp only [Act.put, sA, sB, sC])
      refine wpAnyH_take (i := 28) (oi := ?oi58) (v := ?v58) ?hi58 (by kernel_rfl) (by kernel_rfl) (by kernel_rfl) ?hQ58 (Or.inl ⟨?hw58, ?hy58⟩) (by assumption) ?rest58
      case hi58 => (simp only [gA, gB, gC]; rfl)
      case hQ58 => exact fun _ _ _ h => h
      case hw58 => rfl
      case hy58 => (intro w hSw; (try dsimp only at hSw); go_simp; try with_reducible rfl)
      (try simp only [Act.put, sA, sB, sC])
      refine wpAnyH_done (by kernel_rfl) ?_ _
      go_wp2
      go_ret
      exact ⟨rfl, (And.left hHeld)⟩
end Go.Proofs.YtkhpgejammgolaaGreat

/- Layer 5: is an expression small, by the program. -/
namespace Go.Proofs.YtkhpgejammgolaaGreat
open Go.RowKit
set_option linter.unusedVariables false
set_option linter.unusedSimpArgs false
set_option maxRecDepth 20000

theorem leftL_drop (f : Ex → Int → Int) (ks : List Ex) (k : Nat) (hk : k < ks.length) (n : Int) (hn : 0 ≤ n) : leftL f (ks.drop k) n = leftL f (ks.drop (k + 1)) (f ks[k] n) := by
  rw [List.drop_eq_getElem_cons hk, leftL, if_neg (by omega)]

theorem leftF_le : ∀ (d : Nat) (e : Ex) (n : Int), leftF d e n ≤ n ∨ leftF d e n < 0
  | 0, e, n => .inr (show (-1 : Int) < 0 by decide)
  | d + 1, e, n => by
    by_cases h : 0 ≤ leftF (d + 1) e n
    · have := (leftF_spec _ _ _ h).2; omega
    · omega
/-- the count of parts at block g -/
def Sz (w : World) (g : Nat) (n : Int) : Prop := w.cell? ⟨g, 0, none⟩ = some (.int .i64 n) ∧ w.frozen? ⟨g, 0, none⟩ = false ∧ g < w.heap.size
theorem Sz.below {w w' : World} {g : Nat} {n : Int} {B : Nat} (h : Sz w g n) (hb : Below B w w') (hl : g < B) : Sz w' g n :=
  ⟨(hb.cell (p := ⟨g, 0, none⟩) hl).trans h.1, (World.frozen?_of_block (hb.block g hl)).trans h.2.1, Nat.lt_of_lt_of_le h.2.2 hb.size⟩

theorem Sz.set {w : World} {g : Nat} {n : Int} (h : Sz w g n) (m : Int) : Sz (w.setCell ⟨g, 0, none⟩ (.int .i64 m)) g m :=
  ⟨World.cell?_setCell_same w _ _ h.1, (World.frozen?_setCell _ _ _ _).trans h.2.1, by simpa [World.setCell] using h.2.2⟩
theorem Sz.only {w w' : World} {g h : Nat} {n : Int} (hs : Sz w g n) (ho : Only h w w') (hne : g ≠ h) : Sz w' g n := by
  have hb := ho.block g hs.2.2 (by intro e; injection e with e; exact hne e)
  exact ⟨(World.cell?_of_block (a := ⟨g, 0, none⟩) hb).trans hs.1, (World.frozen?_of_block (a := ⟨g, 0, none⟩) hb).trans hs.2.1, Nat.lt_of_lt_of_le hs.2.2 ho.size⟩

/-- grow -/
def GrowP (g : Nat) (n : Int) (r : Bool) (w : World) (e : Ending) (w' : World) : Prop := e = .returned (.bool r) ∧ Sz w' g (n + 1) ∧ Only g w w'
theorem grow_any (g : Nat) (n deep : Int) (w : World) (h : Sz w g n) (h0 : 0 ≤ n) (h1 : n ≤ 24) : Calls Tryz.prog 90 #[.pointer (some ⟨g, 0, none⟩), .int .i64 deep] w (GrowP g n (decide (n + 1 ≤ 24) && decide (deep ≤ 6)) w) := by
  have hw : IntKind.i64.wrap (n + 1) = n + 1 := by rw [IntKind.wrap_i64]; omega
  have hset := h.set (n + 1)
  obtain ⟨hc, hf, hl⟩ := h
  rw [← hw] at hset
  have HS := Lib.hid hset
  clear hset
  by_cases hn : n + 1 ≤ 24
  · have hr : (decide (n + 1 ≤ 24) && decide (deep ≤ 6)) = decide (deep ≤ 6) := by simp [hn]
    rw [hr]
    go_enter Tryz.func90, Tryz.ntmps90
    go_wp2
    go_ret
    exact ⟨rfl, by have := HS.out; rw [hw] at this; exact this, (Only.refl _ _).set _ _⟩
  · have hr : (decide (n + 1 ≤ 24) && decide (deep ≤ 6)) = false := by simp; intro h; omega
    rw [hr]
    go_enter Tryz.func90, Tryz.ntmps90
    go_wp2
    go_ret
    exact ⟨rfl, by have := HS.out; rw [hw] at this; exact this, (Only.refl _ _).set _ _⟩

/-- holds: the count has come from 24 - n to 24 - leftF d e n -/
def HoldP (g : Nat) (m : Int) (w : World) (e : Ending) (w' : World) : Prop := e = .returned (.bool (decide (0 ≤ m))) ∧ (0 ≤ m → Sz w' g (24 - m)) ∧ Only g w w'
set_option maxHeartbeats 2000000 in
theorem holds_any (w0 : World) (g : Nat) (hg : w0.heap.size ≤ g) : ∀ (D : Nat) (d : Nat) (e : Ex) (A : Option Addr) (c : Nat) (n deep : Int) (w : World), d ≤ 6 → deep = 7 - d → 0 ≤ n → n ≤ 24 → ExK w0 D A c e → Below w0.heap.size w0 w → Sz w g (24 - n) →
    Calls Tryz.prog 98 #[.pointer (some ⟨g, 0, none⟩), agX e.op A e.kids.length c e.name e.val, .int .i64 deep] w (HoldP g (leftF d e n) w)
  | 0, _, _, _, _, _, _, _, _, _, _, _, h, _, _ => False.elim h
  | D + 1, d, e, A, c, n, deep, w, hd, hdeep, h0, h1, hx, hb, hs => by
    obtain ⟨h2, h3, h4, h5⟩ := hx
    have ih := holds_any w0 g hg D
    unfold maxLen at h3
    have hlen : e.kids.length ≤ 9223372036854775807 := by omega
    have hgr : ∀ W, Sz W g (24 - n) → Calls Tryz.prog 90 #[.pointer (some ⟨g, 0, none⟩), .int .i64 deep] W (GrowP g (24 - n) (decide (24 - n + 1 ≤ 24) && decide (deep ≤ 6)) W) := fun W h => grow_any g (24 - n) deep W h (by omega) (by omega)
    have hsb : ∀ o, Sz (w.alloc o) g (24 - n) := fun o => hs.below ((Below.refl _ _).alloc (Nat.le_refl _) _) hs.2.2
    have HSB := Lib.hid hsb
    have hgl := hs.2.2
    by_cases hbad : n = 0 ∨ d = 0
    · have hr : (decide (24 - n + 1 ≤ 24) && decide (deep ≤ 6)) = false := by
        rcases hbad with h | h
        · subst h; simp
        · subst h; simp; omega
      have hm : leftF d e n < 0 := by
        rcases hbad with h | h
        · exact leftF_neg d e n (by omega)
        · subst h; show (-1 : Int) < 0; decide
      rw [hr] at hgr
      have HGR := Lib.hid hgr
      have HM := Lib.hid hm
      clear hgr hm hr ih h5 hsb hs hbad hdeep hd h3
      go_enter Tryz.func98, Tryz.ntmps98
      go_wp2_with (go_at_call 90; refine (HGR.out _ (HSB.out _)).mono ?_; rintro e w1 ⟨rfl, hz1, ho1⟩)
      go_ret
      exact ⟨ret_bool (by have := HM.out; simp; omega), fun h => absurd h (by have := HM.out; omega), (((Only.refl _ _).below ((Below.refl _ _).alloc (Nat.le_refl _) _))).trans ho1⟩
    · have hr : (decide (24 - n + 1 ≤ 24) && decide (deep ≤ 6)) = true := by
        simp; omega
      rw [hr] at hgr
      obtain ⟨d', rfl⟩ : ∃ d', d = d' + 1 := ⟨d - 1, by omega⟩
      have hm : leftF (d' + 1) e n = leftL (leftF d') e.kids (n - 1) := rfl
      have hwd : IntKind.i64.wrap (deep + 1) = deep + 1 := by rw [IntKind.wrap_i64]; omega
      rw [hm]
      have HGR := Lib.hid hgr
      have HIH := Lib.hid (fun e A c n W (hx : ExK w0 D A c e) (hn : 0 ≤ n) (hn4 : n ≤ 24) (hB : Below w0.heap.size w0 W) (hS : Sz W g (24 - n)) => ih d' e A c n (deep + 1) W (by omega) (by omega) hn hn4 hx hB hS)
      have H5 := Lib.hid h5
      have HB := Lib.hid hb
      clear hgr hm hr ih h5 hsb hs hb
      obtain ⟨eop, enm, ev, ks⟩ := e
      simp only [Ex.kids, Ex.op, Ex.name, Ex.val] at *
      have HD := Lib.hid (And.intro hd hdeep)
      have hsf := fun (w : World) (a : Addr) (m : Mode) (b : Nat) => run_store Tryz.prog w a (.float .f64 b) m rfl
      clear hd hdeep
      go_enter Tryz.func98, Tryz.ntmps98
      go_wp2_with (go_at_call 90; refine (HGR.out _ (HSB.out _)).mono ?_; rintro e w1 ⟨rfl, hz1, ho1⟩; obtain ⟨hc1, hf1⟩ := onlyc (b := w.heap.size) ho1 (by simp) (by omega))
      go_loopw [16] (fun i wr => ∃ (k : Nat) (m : Int), k ≤ ks.length ∧ i = .int .i64 k ∧ leftL (leftF d') (ks.drop k) m = leftL (leftF d') ks (n - 1) ∧ 0 ≤ m ∧ m ≤ 24 ∧ Sz wr g (24 - m) ∧ Only g w wr) (fun i _ => ks.length - (intOf i).toNat)
      case atStart => exact ⟨0, n - 1, Nat.zero_le _, rfl, rfl, by have := hbad; omega, by omega, by rw [show 24 - (n - 1) = 24 - n + 1 by omega]; exact hz1, ((Only.refl _ _).below ((Below.refl _ _).alloc (Nat.le_refl _) _)).trans ho1⟩
      case round =>
        obtain ⟨k, m, hk, rfl, hm, hm0, hm4, hz, ho⟩ := hrel
        by_cases hlt : k < ks.length
        · obtain ⟨ad, A', c', rfl, hbl, hkid, hsub⟩ := H5.out k hlt
          have hB : Below w0.heap.size w0 wr := HB.out.trans (ho.to_below HB.out.size hg)
          obtain ⟨q0, q1, q2, q3, q4, q5, q6, q7⟩ := hkid.below hB (by rw [block_add]; exact hbl)
          have hcall := fun o => HIH.out ks[k] A' c' m (wr.alloc o) hsub hm0 hm4 (hB.trans ((Below.refl _ _).alloc hB.size _)) (hz.below ((Below.refl _ _).alloc (Nat.le_refl _) _) hz.2.2)
          have hdr := leftL_drop (leftF d') ks k hlt m hm0
          have hle := leftF_le d' ks[k] m
          rw [hdr] at hm
          generalize leftF d' ks[k] m = m' at hcall hm hle
          generalize ks[k].op = ko at q0 hcall
          generalize ks[k].name = kn at q2 hcall
          generalize ks[k].val = ky at q3 q4 q5 q6 q7 hcall
          generalize ks[k].kids.length = kl at q1 hcall
          have HC := Lib.hid hcall
          have HM := Lib.hid hm
          have HO := Lib.hid ho
          clear hcall hm hdr hkid hsub hB hm0 hz hz1 ho1 ho
          by_cases hp : 0 ≤ m'
          · have hpd : decide (0 ≤ m') = true := by simpa using hp
            go_wp2_with (go_at_call 98; refine (HC.out _).mono ?_; rintro e w2 ⟨rfl, hz2, ho2⟩)
            go_roundw
            case rel => exact ⟨k + 1, m', by omega, by go_num, HM.out, hp, by have := hle; omega, hz2 hp, (HO.out.below ((Below.refl _ _).alloc (Nat.le_refl _) _)).trans ho2⟩
            case measure => simp [intOf]; omega
          · have hpd : decide (0 ≤ m') = false := by simpa using hp
            go_wp2_with (go_at_call 98; refine (HC.out _).mono ?_; rintro e w2 ⟨rfl, hz2, ho2⟩)
            go_ret
            exact ⟨ret_bool (by have := HM.out; rw [← this, leftL_neg _ _ _ (by omega)]; simpa using hp), fun h => absurd h (by have := HM.out; rw [← this, leftL_neg _ _ _ (by omega)]; omega), (HO.out.below ((Below.refl _ _).alloc (Nat.le_refl _) _)).trans ho2⟩
        · obtain rfl : k = ks.length := by omega
          have HM := Lib.hid hm
          clear hm
          have hmm : m = leftL (leftF d') ks (n - 1) := by have := HM.out; rw [List.drop_length] at this; exact this
          have HMM := Lib.hid hmm
          clear hmm
          go_wp2
          go_ret
          exact ⟨ret_bool (by rw [← HMM.out]; simpa using hm0), fun _ => by rw [← HMM.out]; exact hz, ho⟩
/-- small -/
theorem small_any (D : Nat) (e : Ex) (A : Option Addr) (c : Nat) (w : World) (hx : ExK w D A c e) : Calls Tryz.prog 47 #[agX e.op A e.kids.length c e.name e.val] w (VMk (.bool (smallX e)) w) := by
  have hcall : ∀ o, Calls Tryz.prog 98 #[.pointer (some ⟨w.heap.size + 1, 0, none⟩), agX e.op A e.kids.length c e.name e.val, .int .i64 1] ((w.alloc o).alloc (.cells #[.int .i64 0] 87)) (HoldP (w.heap.size + 1) (leftF 6 e 24) ((w.alloc o).alloc (.cells #[.int .i64 0] 87))) := fun o => by
    have hn := heap_alloc_new (w.alloc o) (.cells #[.int .i64 0] 87)
    have hs : (w.alloc o).heap.size = w.heap.size + 1 := by simp
    rw [hs] at hn
    refine holds_any w (w.heap.size + 1) (by omega) D 6 e A c 24 1 _ (by omega) (by decide) (by decide) (by decide) hx (vbox2 w _ _) ⟨(cell_of_row _ _ 0 _ _ (0, 0) hn).trans rfl, by unfold World.frozen?; simp only [hn]; rfl, by simp⟩
  have HC := Lib.hid hcall
  have hsm : decide (0 ≤ leftF 6 e 24) = smallX e := rfl
  rw [← hsm]
  clear hcall hsm hx
  generalize leftF 6 e 24 = m at *
  obtain ⟨eop, enm, ev, ks⟩ := e
  simp only [Ex.kids, Ex.op, Ex.name, Ex.val] at *
  go_enter Tryz.func47, Tryz.ntmps47
  go_wp2_with (go_at_call 98; refine (HC.out _).mono ?_; rintro e w2 ⟨rfl, hz2, ho2⟩)
  go_ret
  exact ⟨rfl, (vbox2 w _ _).trans (ho2.to_below (by simp; omega) (by omega))⟩
end Go.Proofs.YtkhpgejammgolaaGreat

/- Layer 5: Check, by the program. -/
namespace Go.Proofs.YtkhpgejammgolaaGreat
open Go.RowKit
set_option linter.unusedVariables false
set_option linter.unusedSimpArgs false
set_option maxRecDepth 20000

/-! by definition -/
def kindL (op : Int) (l : List Int) : Int × Bool := kindT op (l.getD 0 0) (l.getD 1 0) (l.getD (l.length - 1) 0)
theorem formB_iff (e : Ex) : formB e = true ↔ ¬ (kidsN e.op ≠ e.kids.length ∨ (e.op ≠ 2 ∧ e.name.toList ≠ []) ∨ (e.op ≠ 1 ∧ sameV e.val ⟨0, 0, false, ⟨#[]⟩, 0⟩ = false)) := by
  have hz : vZero = ⟨0, 0, false, ⟨#[]⟩, 0⟩ := rfl
  unfold formB
  rw [hz, Bool.and_eq_true, Bool.and_eq_true, Bool.or_eq_true, Bool.or_eq_true, beq_iff_eq, beq_iff_eq, beq_iff_eq, beq_iff_eq]
  generalize sameV e.val ⟨0, 0, false, ⟨#[]⟩, 0⟩ = b
  by_cases h1 : kidsN e.op = e.kids.length <;> by_cases h2 : e.op = 2 <;> by_cases h3 : e.name.toList = [] <;> by_cases h4 : e.op = 1 <;> cases b <;> simp [h1, h2, h3, h4]
theorem kindX_bad (e : Ex) (l : List Int) (fs : List Fd) (h : formB e = false) : kindX e l fs = (0, 1) := by
  have h2 : ¬ formB e = true := by rw [h]; decide
  rw [formB_iff, Classical.not_not] at h2
  unfold kindX
  exact if_pos h2
theorem kindX_const (e : Ex) (l : List Int) (fs : List Fd) (h : formB e = true) (h1 : e.op = 1) : kindX e l fs = constX e.val := by
  rw [formB_iff] at h
  unfold kindX
  rw [if_neg h, if_pos h1]
  rfl
theorem kindX_field (e : Ex) (l : List Int) (fs : List Fd) (h : formB e = true) (h1 : e.op = 2) : kindX e l fs = fieldX e.name fs := by
  rw [formB_iff] at h
  unfold kindX
  rw [if_neg h, if_neg (by omega), if_pos h1]
  rfl
theorem formB_kids (e : Ex) (h : formB e = true) : kidsN e.op = e.kids.length := by
  rw [formB_iff] at h
  exact Classical.byContradiction fun h2 => h (.inl h2)
theorem kindX_op (e : Ex) (l : List Int) (fs : List Fd) (h : formB e = true) (h1 : e.op ≠ 1) (h2 : e.op ≠ 2) (hl : l.length = e.kids.length) : kindX e l fs = if (kindL e.op l).2 = true then ((kindL e.op l).1, 0) else (0, 40) := by
  have hk := formB_kids e h
  rw [formB_iff] at h
  unfold kindX
  rw [if_neg h, if_neg h1, if_neg h2]
  clear h
  rw [← hl] at hk
  generalize e.op = op at *
  have one : kidsN op = 1 → ∃ a, l = [a] := fun h => by
    match l, hk with
    | [a], _ => exact ⟨a, rfl⟩
    | [], hk => rw [h] at hk; simp at hk
    | a :: b :: l, hk => rw [h] at hk; simp at hk; omega
  have two : kidsN op = 2 → ∃ a b, l = [a, b] := fun h => by
    match l, hk with
    | [a, b], _ => exact ⟨a, b, rfl⟩
    | [], hk => rw [h] at hk; simp at hk
    | [a], hk => rw [h] at hk; simp at hk
    | a :: b :: c :: l, hk => rw [h] at hk; simp at hk; omega
  have three : kidsN op = 3 → ∃ a b c, l = [a, b, c] := fun h => by
    match l, hk with
    | [a, b, c], _ => exact ⟨a, b, c, rfl⟩
    | [], hk => rw [h] at hk; simp at hk
    | [a], hk => rw [h] at hk; simp at hk
    | [a, b], hk => rw [h] at hk; simp at hk
    | a :: b :: c :: d :: l, hk => rw [h] at hk; simp at hk; omega
  by_cases h3 : op = 3
  · subst h3
    obtain ⟨a, rfl⟩ := one rfl
    simp [kindL, kindT]
  by_cases h12 : op = 12
  · subst h12
    obtain ⟨a, rfl⟩ := one rfl
    simp [kindL, kindT]
  by_cases h16 : op = 16
  · subst h16
    obtain ⟨a, rfl⟩ := one rfl
    simp [kindL, kindT]
  by_cases h4 : op = 4
  · subst h4
    obtain ⟨a, b, rfl⟩ := two rfl
    simp [kindL, kindT]
  by_cases h5 : op = 5
  · subst h5
    obtain ⟨a, b, rfl⟩ := two rfl
    simp [kindL, kindT]
  by_cases h6 : op = 6
  · subst h6
    obtain ⟨a, b, rfl⟩ := two rfl
    simp [kindL, kindT]
  by_cases h7 : op = 7
  · subst h7
    obtain ⟨a, b, rfl⟩ := two rfl
    simp [kindL, kindT]
  by_cases h14 : op = 14
  · subst h14
    obtain ⟨a, b, rfl⟩ := two rfl
    simp [kindL, kindT]
  by_cases h15 : op = 15
  · subst h15
    obtain ⟨a, b, rfl⟩ := two rfl
    simp [kindL, kindT]
  by_cases h8 : op = 8
  · subst h8
    obtain ⟨a, b, rfl⟩ := two rfl
    simp [kindL, kindT]
  by_cases h9 : op = 9
  · subst h9
    obtain ⟨a, b, rfl⟩ := two rfl
    simp [kindL, kindT, or_assoc, or_comm, or_left_comm]
  by_cases h10 : op = 10
  · subst h10
    obtain ⟨a, b, rfl⟩ := two rfl
    simp [kindL, kindT]
  by_cases h11 : op = 11
  · subst h11
    obtain ⟨a, b, rfl⟩ := two rfl
    simp [kindL, kindT]
  by_cases h13 : op = 13
  · subst h13
    obtain ⟨a, b, c, rfl⟩ := three rfl
    simp only [kindL, kindT]
    simp
    split <;> simp_all
  exfalso
  unfold kidsN at hk
  simp [*] at hk
/-- the kids' kinds, one by one -/
theorem chkL_good (f : Ex → Int × Int) : ∀ ks : List Ex, (∀ (j : Nat) (hj : j < ks.length), (f ks[j]).2 = 0) → chkL f ks = (ks.map fun k => (f k).1, 0)
  | [], _ => rfl
  | k :: ks, h => by
    have h0 := h 0 (by simp)
    rw [List.getElem_cons_zero] at h0
    rw [chkL, if_neg (by rw [h0]; decide), chkL_good f ks (fun j hj => h (j + 1) (by simpa using hj)), if_neg (fun h => h rfl)]
    rfl
theorem chkL_bad (f : Ex → Int × Int) : ∀ (ks : List Ex) (k : Nat) (hk : k < ks.length), (∀ (j : Nat) (hj : j < k), (f (ks[j]'(by omega))).2 = 0) → (f ks[k]).2 ≠ 0 → (chkL f ks).2 = (f ks[k]).2
  | [], k, hk, _, _ => absurd hk (Nat.not_lt_zero _)
  | x :: ks, 0, hk, h, hn => by rw [List.getElem_cons_zero] at hn ⊢; rw [chkL, if_pos hn]
  | x :: ks, k + 1, hk, h, hn => by
    have h0 := h 0 (by omega)
    rw [List.getElem_cons_zero] at h0
    rw [List.getElem_cons_succ] at hn ⊢
    have hr := chkL_bad f ks k (by simpa using hk) (fun j hj => by have := h (j + 1) (by omega); rwa [List.getElem_cons_succ] at this) hn
    rw [chkL, if_neg (by rw [h0]; decide), if_pos (by rw [hr]; exact hn), hr]
end Go.Proofs.YtkhpgejammgolaaGreat

/- Layer 5: Check, by the program: the walk. -/
namespace Go.Proofs.YtkhpgejammgolaaGreat
open Go.RowKit
set_option linter.unusedVariables false
set_option linter.unusedSimpArgs false
set_option maxRecDepth 20000

theorem eintinfo : (Tryz.prog.info? 3).map (fun i => (i.zero, i.size, i.bytes)) = some (some (.int .i64 0), 1, 8) := by kernel_rfl
theorem deepX_kid {d : Nat} {e : Ex} (hd : deepX d e) (hs : sizeX d e ≤ 24) : ∃ d', d = d' + 1 ∧ e.kids.length ≤ 23 ∧ ∀ (j : Nat) (hj : j < e.kids.length), deepX d' e.kids[j] ∧ sizeX d' e.kids[j] ≤ 24 := by
  cases d with
  | zero => exact False.elim hd
  | succ d =>
    refine ⟨d, rfl, ?_, fun j hj => ⟨hd _ (List.getElem_mem hj), ?_⟩⟩
    · have h1 : ∀ ks : List Ex, (∀ k ∈ ks, deepX d k) → ks.length ≤ (ks.map (sizeX d)).sum := by
        intro ks
        induction ks with
        | nil => intro _; exact Nat.le_refl _
        | cons k ks ih =>
          intro h
          have h0 := h k (List.mem_cons_self ..)
          have h2 := ih (fun x hx => h x (List.mem_cons_of_mem _ hx))
          rw [List.map_cons, List.sum_cons, List.length_cons]
          cases d with
          | zero => exact False.elim h0
          | succ d => have : 1 ≤ sizeX (d + 1) k := by unfold sizeX; omega
                      omega
      have := h1 e.kids hd
      unfold sizeX at hs
      omega
    · have h2 : ∀ (ks : List Ex) (j : Nat) (hj : j < ks.length), sizeX d ks[j] ≤ (ks.map (sizeX d)).sum := by
        intro ks
        induction ks with
        | nil => intro j hj; exact absurd hj (Nat.not_lt_zero _)
        | cons k ks ih =>
          intro j hj
          rw [List.map_cons, List.sum_cons]
          cases j with
          | zero => rw [List.getElem_cons_zero]; omega
          | succ j => have := ih j (by simpa using hj); rw [List.getElem_cons_succ]; omega
      have := h2 e.kids j hj
      unfold sizeX at hs
      omega
theorem kns_of (w : World) (g n : Nat) (t : TypeId) (kk : Nat → Int) (l : List Int) (hr : w.rowIs g t n (fun j => .int .i64 (kk j))) (hl : l.length = n) (h0 : 0 < n) (h24 : n ≤ 24) (hk : ∀ (j : Nat) (hj : j < l.length), kk j = l[j]) : Kns w ⟨g, 0, none⟩ n (l.getD 0 0) (l.getD 1 0) (l.getD (l.length - 1) 0) := by
  have hat : ∀ j, j < n → w.cell? ⟨g, j, none⟩ = some (.int .i64 (l.getD j 0)) := fun j hj => by
    rw [hr.cell hj, hk j (by omega), List.getD_eq_getElem?_getD, List.getElem?_eq_getElem (by omega)]; rfl
  refine ⟨h0, h24, hat 0 h0, ?_, fun h3 => ?_⟩
  · rw [Addr.add_lit, Nat.zero_add, hl]; exact hat _ (by omega)
  · exact hat 1 (by omega)
theorem CellsX.set_off {W : World} {b g : Nat} {op : Int} {A : Option Addr} {n c : Nat} {nm : ByteArray} {y : Vl} (h : CellsX W b op A n c nm y) (hne : b ≠ g) (j : Nat) (u : Value) : CellsX (W.setCell ⟨g, j, none⟩ u) b op A n c nm y := by
  have hk : ∀ o, (W.setCell ⟨g, j, none⟩ u).cell? ⟨b, o, none⟩ = W.cell? ⟨b, o, none⟩ := fun o => World.cell?_setCell_other W (a := ⟨g, j, none⟩) (b := ⟨b, o, none⟩) (v := u) (by intro e; injection e with e _ _; exact hne e.symm)
  unfold CellsX
  simp only [hk]
  exact h
set_option maxHeartbeats 4000000 in
theorem check_any (FA : Option Addr) (FC : Nat) (fs : List Fd) : ∀ (D d : Nat) (e : Ex) (A : Option Addr) (c : Nat) (w : World), ExK w D A c e → FdK w FA FC fs → deepX d e → sizeX d e ≤ 24 →
    Calls Tryz.prog 56 #[agX e.op A e.kids.length c e.name e.val, .slice FA fs.length FC] w (VMk (pairII (chkX d e fs)) w)
  | 0, _, _, _, _, _, h, _, _, _ => False.elim h
  | D + 1, d, e, A, c, w, hx, hf, hdeep, hsize => by
    obtain ⟨d, rfl, h23, hkids⟩ := deepX_kid hdeep hsize
    have ih := check_any FA FC fs D
    obtain ⟨h2, h3, h4, h5⟩ := hx
    have hsp0 := kindX_bad e (e.kids.map fun k => (chkX d k fs).1) fs
    have hsp1 := kindX_const e (e.kids.map fun k => (chkX d k fs).1) fs
    have hsp2 := kindX_field e (e.kids.map fun k => (chkX d k fs).1) fs
    have hsp3 := fun h h1 h2 => kindX_op e (e.kids.map fun k => (chkX d k fs).1) fs h h1 h2 (by simp)
    have hchk : chkX (d + 1) e fs = if (chkL (fun k => chkX d k fs) e.kids).2 ≠ 0 then (0, (chkL (fun k => chkX d k fs) e.kids).2) else kindX e (chkL (fun k => chkX d k fs) e.kids).1 fs := rfl
    have hgood := chkL_good (fun k => chkX d k fs) e.kids
    have hbad := chkL_bad (fun k => chkX d k fs) e.kids
    have hcall : ∀ (j : Nat) (hj : j < e.kids.length) A' c' W, ExK w D A' c' e.kids[j] → Below w.heap.size w W → Calls Tryz.prog 56 #[agX e.kids[j].op A' e.kids[j].kids.length c' e.kids[j].name e.kids[j].val, .slice FA fs.length FC] W (VMk (pairII (chkX d e.kids[j] fs)) W) :=
      fun j hj A' c' W hx hB => ih d e.kids[j] A' c' W (hx.below hB (Nat.le_refl _)) (hf.below hB (Nat.le_refl _)) (hkids j hj).1 (hkids j hj).2
    have hform := formed_any e.op e.name e.val e.kids.length c A
    have hfb : ((kidsN e.op == (e.kids.length : Int)) && ((e.op == 2 || (e.name.toList == [])) && (e.op == 1 || sameV e.val vZero))) = formB e := rfl
    rw [hfb] at hform
    clear hfb
    have hfk := formB_kids e
    have hfield : ∀ W, Below w.heap.size w W → Calls Tryz.prog 108 #[.string e.name, .slice FA fs.length FC] W (VMk (pairII (fieldX e.name fs)) W) := fun W hB => fieldKind_any e.name FA FC fs W (hf.below hB (Nat.le_refl _))
    have hconst := constKind_any e.val
    have hkind := fun g n c a m z W h hn h1 h2 => kindOf_any e.op g n c a m z W h hn h1 h2
    have hkt : ∀ l : List Int, kindT e.op (l.getD 0 0) (l.getD 1 0) (l.getD (l.length - 1) 0) = kindL e.op l := fun l => rfl
    generalize chkX (d + 1) e fs = RES at hchk ⊢
    generalize formB e = fb at hform hsp0 hsp1 hsp2 hsp3 hfk
    generalize constX e.val = cx at hconst hsp1
    generalize fieldX e.name fs = fx at hfield hsp2
    have hml : ∀ (j : Nat) (hj : j < (e.kids.map fun k => (chkX d k fs).1).length), (e.kids.map fun k => (chkX d k fs).1)[j] = (chkX d (e.kids[j]'(by simpa using hj)) fs).1 := fun j hj => by simp
    have hmn : (e.kids.map fun k => (chkX d k fs).1).length = e.kids.length := by simp
    clear ih hkids hsize hdeep
    generalize e.kids = ks at *
    generalize e.op = eop at *
    generalize e.name = enm at *
    generalize e.val = ev at *
    have hmk := fun (W : World) => run_make_row' (P := Tryz.prog) 97 3 (.int .i64 0) 8 Tryz.underlying97 eintinfo rfl .i64 .i64 ks.length (by omega) (by omega) W
    have hsf := fun (w : World) (a : Addr) (m : Mode) (b : Nat) => run_store Tryz.prog w a (.float .f64 b) m rfl
    have HCALL := Lib.hid hcall
    have HFORM := Lib.hid hform
    have HFIELD := Lib.hid hfield
    have HCONST := Lib.hid hconst
    have HKIND := Lib.hid hkind
    have HPURE := Lib.hid (And.intro hchk (And.intro hgood hbad))
    have HSP := Lib.hid (And.intro hsp0 (And.intro hsp1 (And.intro hsp2 (And.intro hsp3 hfk))))
    have HML := Lib.hid (And.intro hml (And.intro hmn hkt))
    have H5 := Lib.hid h5
    have H23 := Lib.hid h23
    clear hcall hform hfield hconst hkind hchk hgood hbad hsp0 hsp1 hsp2 hsp3 hfk hml hmn hkt h5 h23 hf h2 h3 h4
    go_enter Tryz.func56, Tryz.ntmps56
    go_wp2
    go_loopw [20] (fun i wr => ∃ (k : Nat) (kk : Nat → Int), k ≤ ks.length ∧ i = .int .i64 k ∧ (∀ (j : Nat) (hj : j < ks.length), j < k → (chkX d ks[j] fs).2 = 0 ∧ kk j = (chkX d ks[j] fs).1) ∧ wr.rowIs (w.heap.size + 1) 3 ks.length (fun j => .int .i64 (kk j)) ∧ Below w.heap.size w wr ∧ CellsX wr w.heap.size eop A ks.length c enm ev) (fun i _ => ks.length - (intOf i).toNat)
    case atStart =>
      refine ⟨0, fun _ => 0, Nat.zero_le _, rfl, fun j hj h => absurd h (Nat.not_lt_zero _), ?_, vbox2 w _ _, (Kid_new w eop A ks.length c enm ev).below ((Below.refl _ _).alloc (Nat.le_refl _) _)⟩
      have := World.rowIs_made (w.alloc (bxX eop A ks.length c enm ev)) (.int .i64 0) ks.length 3
      have hs : (w.alloc (bxX eop A ks.length c enm ev)).heap.size = w.heap.size + 1 := by simp
      rw [hs] at this
      exact this
    case round =>
      obtain ⟨k, kk, hk, rfl, hdone, hrow, hb, hbox⟩ := hrel
      have h23 := H23.out
      by_cases hlt : k < ks.length
      · obtain ⟨ad, A', c', rfl, hbl, hkid, hsub⟩ := H5.out k hlt
        obtain ⟨q0, q1, q2, q3, q4, q5, q6, q7⟩ := hkid.below hb (by rw [block_add]; exact hbl)
        have hcall := fun o => HCALL.out k hlt A' c' (wr.alloc o) hsub (hb.alloc hb.size o)
        have hall : (chkX d ks[k] fs).2 = 0 → ∀ kk' : Nat → Int, (∀ j, j < k → kk' j = kk j) → kk' k = (chkX d ks[k] fs).1 → ∀ (j : Nat) (hj : j < ks.length), j < k + 1 → (chkX d ks[j] fs).2 = 0 ∧ kk' j = (chkX d ks[j] fs).1 := fun h0 kk' h1 h2 j hj hjk => by
          by_cases hjk2 : j < k
          · rw [h1 j hjk2]; exact hdone j hj hjk2
          · obtain rfl : j = k := by omega
            exact ⟨h0, h2⟩
        have hres : (chkX d ks[k] fs).2 ≠ 0 → RES = (0, (chkX d ks[k] fs).2) := fun hne => by
          have := HPURE.out.2.2 k hlt (fun j hj => (hdone j (by omega) hj).1) hne
          rw [HPURE.out.1, if_pos (by rw [this]; exact hne), this]
        have HALL := Lib.hid hall
        have HRES := Lib.hid hres
        clear hall hres hdone
        generalize chkX d ks[k] fs = r at hcall HALL HRES
        obtain ⟨r1, r2⟩ := r
        generalize ks[k].op = ko at q0 hcall
        generalize ks[k].name = kn at q2 hcall
        generalize ks[k].val = ky at q3 q4 q5 q6 q7 hcall
        generalize ks[k].kids.length = kl at q1 hcall
        have HC := Lib.hid hcall
        have HROW := Lib.hid hrow
        have HBOX := Lib.hid hbox
        clear hcall hkid hsub hrow hbox
        have hgl := HROW.out.lt
        rcases hz : (r2 != 0) with _ | _
        · have hz0 : r2 = 0 := by simpa using hz
          subst hz0
          go_wp2_with (go_at_call 56; refine (HC.out _).mono ?_; rintro e w2 ⟨rfl, hb2⟩; have hrow2 := (HROW.out.alloc _).of_block (hb2.block _ (by simp; omega)); have hc2 := hrow2.cell hlt; have hf2 := hrow2.frozen k; have HROW2 := Lib.hid hrow2; clear hrow2)
          go_roundw
          case rel =>
            refine ⟨k + 1, fun j => if j = k then r1 else kk j, by omega, by go_num, HALL.out (by first | rfl | trivial) _ (fun j hj => if_neg (by omega)) (if_pos rfl), ?_, ?_, ?_⟩
            · exact (HROW2.out.set k (.int .i64 r1)).congr (fun j hj => by by_cases h : j = k <;> simp [h])
            · exact (hb.trans ((Below.refl _ _).alloc hb.size _)).trans (hb2.mono (by have := hb.size; simp; omega)) |>.setCell (by simp) _
            · exact CellsX.set_off (HBOX.out.below (((Below.refl _ _).alloc (Nat.le_refl _) _).trans (hb2.mono (by simp)))) (by omega) _ _
          case measure => simp [intOf]; omega
        · have hz0 : r2 ≠ 0 := by simpa using hz
          go_wp2_with (go_at_call 56; refine (HC.out _).mono ?_; rintro e w2 ⟨rfl, hb2⟩)
          have hfin := HRES.out hz0
          refine bodyPost_ret (v := pairII (0, r2)) (by simp [results, Tryz.results56, go_sem]) rfl ⟨by rw [hfin], ?_⟩
          exact (hb.trans ((Below.refl _ _).alloc hb.size _)).trans (hb2.mono (by have := hb.size; simp; omega))
      · obtain rfl : k = ks.length := by omega
        have hgd := HPURE.out.2.1 (fun j hj => (hdone j hj hj).1)
        have hR : RES = kindX e (List.map (fun k => (chkX d k fs).1) ks) fs := by
          rw [HPURE.out.1, hgd, if_neg (fun h => h rfl)]
        have hml := HML.out
        have hkk : ∀ (j : Nat) (hj : j < (List.map (fun k => (chkX d k fs).1) ks).length), kk j = (List.map (fun k => (chkX d k fs).1) ks)[j] := fun j hj => by
          have hj' : j < ks.length := by simpa using hj
          rw [hml.1 j hj]; exact (hdone j hj' hj').2
        have hkns := fun (W : World) (hr : W.rowIs (w.heap.size + 1) 3 ks.length (fun j => .int .i64 (kk j))) (h0 : 0 < ks.length) => kns_of W (w.heap.size + 1) ks.length _ kk _ hr hml.2.1 h0 (by omega) hkk
        have hkd := fun (W : World) (hr : W.rowIs (w.heap.size + 1) 3 ks.length (fun j => .int .i64 (kk j))) (h0 : 0 < ks.length) hn h1 h2 => HKIND.out ⟨w.heap.size + 1, 0, none⟩ ks.length ks.length _ _ _ W (hkns W hr h0) hn h1 h2
        simp only [hml.2.2] at hkd
        have hsp := HSP.out
        rw [← hR] at hsp
        clear hkns hkk hml hR hgd hdone
        generalize kindL eop (List.map (fun k => (chkX d k fs).1) ks) = kt at hkd hsp
        have HKD := Lib.hid hkd
        have HS := Lib.hid hsp
        have HROW := Lib.hid hrow
        have HB := Lib.hid hbox
        obtain ⟨b0, b1, b2, b3, b4, b5, b6, b7⟩ := hbox
        have hgl := hrow.lt
        clear hkd hsp hrow
        have hkeep : ∀ W, Below wr.heap.size wr W → CellsX W w.heap.size eop A ks.length c enm ev ∧ W.rowIs (w.heap.size + 1) 3 ks.length (fun j => .int .i64 (kk j)) := fun W h => ⟨HB.out.below h, HROW.out.of_block (h.block _ hgl)⟩
        have HKEEP := Lib.hid hkeep
        clear hkeep
        rcases fb with _ | _
        · have hfin := HS.out.1 rfl
          have HFIN := Lib.hid hfin
          clear hfin
          go_wp2_with (go_at_call 106; refine (HFORM.out _).mono ?_; rintro e w2 ⟨rfl, hb2⟩)
          exact bodyPost_ret (v := pairII (0, 1)) (by simp [results, Tryz.results56, go_sem]) rfl ⟨by rw [HFIN.out], hb.trans (hb2.mono hb.size)⟩
        by_cases o1 : eop = 1
        · have hfin := HS.out.2.1 rfl o1
          have HFIN := Lib.hid hfin
          clear hfin
          subst o1
          go_wp2_with (first
            | (go_at_call 106; refine (HFORM.out _).mono ?_; rintro e w2 ⟨rfl, hb2⟩; obtain ⟨d0, d1, d2, d3, d4, d5, d6, d7⟩ := (HKEEP.out _ hb2).1)
            | (go_at_call 107; refine (HCONST.out _).mono ?_; rintro e w3 ⟨rfl, hb3⟩))
          exact bodyPost_ret (v := pairII cx) (by simp [results, Tryz.results56, go_sem]) rfl ⟨by rw [HFIN.out], (hb.trans (hb2.mono hb.size)).trans (hb3.mono (by have := hb.size; have := hb2.size; omega))⟩
        by_cases o2 : eop = 2
        · have hfin := HS.out.2.2.1 rfl o2
          have HFIN := Lib.hid hfin
          clear hfin
          subst o2
          go_wp2_with (first
            | (go_at_call 106; refine (HFORM.out _).mono ?_; rintro e w2 ⟨rfl, hb2⟩; obtain ⟨d0, d1, d2, d3, d4, d5, d6, d7⟩ := (HKEEP.out _ hb2).1)
            | (go_at_call 108; refine (HFIELD.out _ (hb.trans (hb2.mono hb.size))).mono ?_; rintro e w3 ⟨rfl, hb3⟩))
          exact bodyPost_ret (v := pairII fx) (by simp [results, Tryz.results56, go_sem]) rfl ⟨by rw [HFIN.out], (hb.trans (hb2.mono hb.size)).trans (hb3.mono (by have := hb.size; have := hb2.size; omega))⟩
        have hfin := HS.out.2.2.2.1 rfl o1 o2
        have hkn := HS.out.2.2.2.2 rfl
        have hpos : 0 < ks.length := by
          rcases Nat.eq_zero_or_pos ks.length with h0 | h0
          · exfalso
            rw [h0] at hkn
            unfold kidsN at hkn
            rw [if_neg (by omega)] at hkn
            split at hkn
            · simp at hkn
            split at hkn
            · simp at hkn
            split at hkn <;> simp at hkn
          · exact h0
        have HFIN := Lib.hid hfin
        have hkd := fun W hr => HKD.out W hr hpos hkn o1 o2
        have HKD2 := Lib.hid hkd
        have h1b : (eop == 1) = false := by simpa using o1
        have h2b : (eop == 2) = false := by simpa using o2
        clear hfin hkn hkd HKD
        obtain ⟨kt1, kt2⟩ := kt
        rcases kt2 with _ | _
        · go_wp2_with (first
            | (go_at_call 106; refine (HFORM.out _).mono ?_; rintro e w2 ⟨rfl, hb2⟩; obtain ⟨d0, d1, d2, d3, d4, d5, d6, d7⟩ := (HKEEP.out _ hb2).1)
            | (go_at_call 109; refine (HKD2.out _ (HKEEP.out _ hb2).2).mono ?_; rintro e w3 ⟨rfl, hb3⟩))
          exact bodyPost_ret (v := pairII (0, 40)) (by simp [results, Tryz.results56, go_sem]) rfl ⟨by rw [HFIN.out]; rfl, (hb.trans (hb2.mono hb.size)).trans (hb3.mono (by have := hb.size; have := hb2.size; omega))⟩
        · go_wp2_with (first
            | (go_at_call 106; refine (HFORM.out _).mono ?_; rintro e w2 ⟨rfl, hb2⟩; obtain ⟨d0, d1, d2, d3, d4, d5, d6, d7⟩ := (HKEEP.out _ hb2).1)
            | (go_at_call 109; refine (HKD2.out _ (HKEEP.out _ hb2).2).mono ?_; rintro e w3 ⟨rfl, hb3⟩))
          exact bodyPost_ret (v := pairII (kt1, 0)) (by simp [results, Tryz.results56, go_sem]) rfl ⟨by rw [HFIN.out]; rfl, (hb.trans (hb2.mono hb.size)).trans (hb3.mono (by have := hb.size; have := hb2.size; omega))⟩

/-- Check -/
theorem eCheck_any (FA : Option Addr) (FC : Nat) (fs : List Fd) (D : Nat) (e : Ex) (A : Option Addr) (c : Nat) (w : World) (hx : ExK w D A c e) (hf : FdK w FA FC fs) :
    Calls Tryz.prog 24 #[agX e.op A e.kids.length c e.name e.val, .slice FA fs.length FC] w (VMk (pairII (checkX e fs)) w) := by
  have hs := fun W (hb : Below w.heap.size w W) => small_any D e A c W (hx.below hb (Nat.le_refl _))
  have hc : smallX e = true → ∀ W, Below w.heap.size w W → Calls Tryz.prog 56 #[agX e.op A e.kids.length c e.name e.val, .slice FA fs.length FC] W (VMk (pairII (chkX 6 e fs)) W) := fun h W hb => by
    obtain ⟨h1, h2⟩ := (smallX_iff e).1 h
    exact check_any FA FC fs D 6 e A c W (hx.below hb (Nat.le_refl _)) (hf.below hb (Nat.le_refl _)) h1 h2
  have hr : checkX e fs = if smallX e then chkX 6 e fs else (0, 51) := rfl
  rw [hr]
  generalize chkX 6 e fs = r at hc ⊢
  generalize smallX e = b at hs hc ⊢
  generalize e.kids.length = n at *
  generalize e.op = eop at *
  generalize e.name = enm at *
  generalize e.val = ev at *
  have hb0 : ∀ o, Below w.heap.size w (w.alloc o) := fun o => (Below.refl _ _).alloc (Nat.le_refl _) _
  have HS := Lib.hid hs
  clear hs hr hx hf
  rcases b with _ | _
  · clear hc
    rw [if_neg (by decide)]
    go_enter Tryz.func24, Tryz.ntmps24
    go_wp2_with (go_at_call 47; refine (HS.out _ (hb0 _)).mono ?_; rintro e w1 ⟨rfl, hb1⟩)
    exact bodyPost_ret (v := pairII (0, 51)) (by simp [results, Tryz.results24, go_sem]) rfl ⟨rfl, (hb0 _).trans (hb1.mono (by simp))⟩
  · have hc := hc rfl
    have HC := Lib.hid hc
    clear hc
    rw [if_pos rfl]
    go_enter Tryz.func24, Tryz.ntmps24
    go_wp2_with (first
      | (go_at_call 47; refine (HS.out _ (hb0 _)).mono ?_; rintro e w1 ⟨rfl, hb1⟩; obtain ⟨d0, d1, d2, d3, d4, d5, d6, d7⟩ := (Kid_new w eop A n c enm ev).below hb1)
      | (go_at_call 56; refine (HC.out _ ((hb0 _).trans (hb1.mono (by simp)))).mono ?_; rintro e w2 ⟨rfl, hb2⟩))
    exact bodyPost_ret (v := pairII r) (by simp [results, Tryz.results24, go_sem]) rfl ⟨rfl, ((hb0 _).trans (hb1.mono (by simp))).trans (hb2.mono (by have := hb1.size; simp at this; omega))⟩
end Go.Proofs.YtkhpgejammgolaaGreat

/- Layer 4: have values short texts. -/
namespace Go.Proofs.YtkhpgejammgolaaGreat
open Go.RowKit
set_option linter.unusedVariables false
set_option linter.unusedSimpArgs false
set_option maxRecDepth 20000

/-- a value lies in block b -/
def Bx (W : World) (b : Nat) (v : Vl) : Prop := W.cell? ⟨b, 0, none⟩ = some (.int .i64 v.k) ∧ W.cell? ⟨b, 1, none⟩ = some (.int .i64 v.i) ∧ W.cell? ⟨b, 2, none⟩ = some (.bool v.b) ∧ W.cell? ⟨b, 3, none⟩ = some (.string v.s) ∧ W.cell? ⟨b, 4, none⟩ = some (.float .f64 v.n)
theorem Bx.new (w : World) (v : Vl) : Bx (w.alloc (.cells #[.int .i64 v.k, .int .i64 v.i, .bool v.b, .string v.s, .float .f64 v.n] 25)) w.heap.size v := by
  have h := heap_alloc_new w (.cells #[.int .i64 v.k, .int .i64 v.i, .bool v.b, .string v.s, .float .f64 v.n] 25)
  exact ⟨(cell_of_row _ _ 0 _ _ (0, 0) h).trans rfl, (cell_of_row _ _ 1 _ _ (0, 0) h).trans rfl, (cell_of_row _ _ 2 _ _ (0, 0) h).trans rfl, (cell_of_row _ _ 3 _ _ (0, 0) h).trans rfl, (cell_of_row _ _ 4 _ _ (0, 0) h).trans rfl⟩
theorem Bx.below {w w' : World} {b : Nat} {v : Vl} (h : Bx w b v) (hb : Below w.heap.size w w') : Bx w' b v :=
  have hl : b < w.heap.size := World.block_lt_of_cell? w _ h.1
  ⟨(hb.cell (p := ⟨b, 0, none⟩) hl).trans h.1, (hb.cell (p := ⟨b, 1, none⟩) hl).trans h.2.1, (hb.cell (p := ⟨b, 2, none⟩) hl).trans h.2.2.1, (hb.cell (p := ⟨b, 3, none⟩) hl).trans h.2.2.2.1, (hb.cell (p := ⟨b, 4, none⟩) hl).trans h.2.2.2.2⟩
theorem Bx.alloc {w : World} {b : Nat} {v : Vl} (h : Bx w b v) (o : Obj) : Bx (w.alloc o) b v := h.below ((Below.refl _ _).alloc (Nat.le_refl _) o)
end Go.Proofs.YtkhpgejammgolaaGreat

/- Layer 4: the chapter's examples. -/
namespace Go.Proofs.YtkhpgejammgolaaGreat
open Go.RowKit
set_option linter.unusedVariables false
set_option linter.unusedSimpArgs false
set_option maxRecDepth 20000

theorem good_num (n : Nat) : goodV (vNum n) = true := by unfold goodV; rw [empty_list]; rfl
theorem good_int (i : Int) : goodV (vInt i) = true := by unfold goodV; rw [empty_list]; simp [ByteArray.size]
theorem like_int (m n : Int) : alikeV (vInt m) (vInt n) = true := by unfold alikeV; rw [good_int, good_int]; rfl
theorem ex6 : reckV 7 (vInt 1) (vInt 0) = (vZero, 42) := by unfold reckV; rw [like_int]; rfl

end Go.Proofs.YtkhpgejammgolaaGreat

/- WireBack: what was put is read as it was. -/
namespace Go.Proofs.YtkhpgejammgolaaGreat
open Go.RowKit
set_option linter.unusedVariables false

theorem numW_lt (x : Nat) (h : x < 18446744073709551616) : numW x < 18446744073709551616 := by unfold numW; split <;> omega
theorem RdR.drew {w : World} {g : Nat} {rest : List UInt8} {err : Int} (h : RdR w g rest err) : RdR w.drew g rest err := h

end Go.Proofs.YtkhpgejammgolaaGreat

/- Layer 5: what is checked tells a value of its kind, or goes over, or divides by nought. -/
namespace Go.Proofs.YtkhpgejammgolaaGreat
open Go.RowKit
set_option linter.unusedVariables false
set_option linter.unusedSimpArgs false

/-- a good value of kind k, or an error of reckoning -/
def Snd (r : Vl × Int) (k : Int) : Prop := (r.2 = 0 ∧ goodV r.1 = true ∧ okV r.1 ∧ r.1.k = k) ∨ ((r.2 = 41 ∨ r.2 = 42) ∧ r.1 = vZero)
theorem good_truth (b : Bool) : goodV (vTruth b) = true := by unfold goodV; rw [empty_list]; simp [ByteArray.size]
theorem ok_truth (b : Bool) : okV (vTruth b) := ⟨by unfold in64; simp only; omega, by unfold in64; simp only; omega, by simp only; omega⟩
theorem ok_zero : okV vZero := ⟨by unfold in64; simp only; omega, by unfold in64; simp only; omega, by simp only; omega⟩
theorem ok_num {n : Nat} (h : n < 18446744073709551616) : okV (vNum n) := ⟨by unfold in64; simp only; omega, by unfold in64; simp only; omega, h⟩
theorem ok_int {i : Int} (h : in64 i) : okV (vInt i) := ⟨by unfold in64; simp only; omega, h, by simp only; omega⟩
theorem snd_int {p : Int × Int} (h : p.2 = 0 ∧ in64 p.1 ∨ p.2 = 41 ∨ p.2 = 42) : Snd (ofP p, p.2) 1 := by
  unfold ofP
  rcases h with ⟨h1, h2⟩ | h
  · left
    rw [if_pos h1]
    exact ⟨h1, good_int _, ok_int h2, rfl⟩
  · right
    rw [if_neg (by omega)]
    exact ⟨h, rfl⟩
theorem ovr_snd (n : Int) : (ovr n).2 = 0 ∧ in64 (ovr n).1 ∨ (ovr n).2 = 41 ∨ (ovr n).2 = 42 := by
  unfold ovr
  split
  · rename_i h; exact Or.inl ⟨rfl, h⟩
  · exact Or.inr (Or.inl rfl)
theorem quo_snd (x y : Int) (hx : in64 x) (hy : in64 y) : (quoI x y).2 = 0 ∧ in64 (quoI x y).1 ∨ (quoI x y).2 = 41 ∨ (quoI x y).2 = 42 := by
  unfold quoI
  split
  · exact Or.inr (Or.inr rfl)
  split
  · exact Or.inr (Or.inl rfl)
  · rename_i h0 h1
    left
    refine ⟨rfl, ?_⟩
    unfold in64 at *
    simp only
    have ha := Int.natAbs_tdiv_le_natAbs x y
    by_cases hm : x = -9223372036854775808
    · subst hm
      by_cases hy1 : y = 1
      · subst hy1; rw [Int.tdiv_one]; omega
      · have h2 : 2 ≤ y.natAbs := by omega
        have h3 : (Int.tdiv (-9223372036854775808) y).natAbs = 9223372036854775808 / y.natAbs := by rw [Int.natAbs_tdiv]; rfl
        have h4 : 9223372036854775808 / y.natAbs ≤ 9223372036854775808 / 2 := Nat.div_le_div_left h2 (by omega)
        omega
    · omega
theorem ints_snd (op x y : Int) (hx : in64 x) (hy : in64 y) : (intsV op x y).2 = 0 ∧ in64 (intsV op x y).1 ∨ (intsV op x y).2 = 41 ∨ (intsV op x y).2 = 42 := by
  unfold intsV
  split
  · exact ovr_snd _
  split
  · exact ovr_snd _
  split
  · exact ovr_snd _
  split
  · exact quo_snd x y hx hy
  split
  · left; refine ⟨rfl, ?_⟩; simp only; split <;> assumption
  · left; refine ⟨rfl, ?_⟩; simp only; split <;> assumption
theorem flRes_lt (op : BinOp) (x y : Nat) : flRes op x y < 18446744073709551616 := by
  unfold flRes
  split
  · rename_i r h
    have hw := floatBits_wf h
    have hl : decide (r < 2 ^ 64) = true := hw
    exact numW_lt r (by simpa using hl)
  · omega
theorem nums_lt (op : Int) (x y : Nat) (hx : x < 18446744073709551616) (hy : y < 18446744073709551616) : numsV op x y < 18446744073709551616 := by
  unfold numsV
  split
  · exact flRes_lt _ _ _
  split
  · exact flRes_lt _ _ _
  split
  · exact flRes_lt _ _ _
  split
  · exact flRes_lt _ _ _
  split
  · unfold minN
    split
    · omega
    · refine numW_lt _ ?_
      unfold flMin
      split <;> assumption
  · unfold maxN
    split
    · omega
    · refine numW_lt _ ?_
      unfold flMax
      split <;> assumption
theorem snd_reck (op : Int) (a c : Vl) (ho : opsB op = true) (ha : goodV a = true) (hc : goodV c = true) (ka : okV a) (kc : okV c) (hk : a.k = c.k) (h14 : a.k = 1 ∨ a.k = 4) : Snd (reckV op a c) a.k := by
  have hl : alikeV a c = true := by unfold alikeV; rw [ha, hc, hk]; simp
  unfold reckV
  rw [if_pos ho, if_pos hl]
  rcases h14 with h | h
  · rw [if_pos h, h]
    exact snd_int (ints_snd op _ _ ka.2.1 kc.2.1)
  · rw [if_neg (by omega), if_pos h, h]
    exact Or.inl ⟨rfl, good_num _, ok_num (nums_lt _ _ _ ka.2.2 kc.2.2), rfl⟩
theorem negF_lt {n : Nat} (h : n < 18446744073709551616) : negF n < 18446744073709551616 := by
  have h2 : negF n = n ^^^ 2 ^ 63 := rfl
  rw [h2]
  exact Nat.xor_lt_two_pow (n := 64) (by omega) (by decide)
theorem snd_neg (a : Vl) (ha : goodV a = true) (ka : okV a) (h14 : a.k = 1 ∨ a.k = 4) : Snd (negV a) a.k := by
  unfold negV
  rw [if_pos ha]
  rcases h14 with h | h
  · rw [if_pos h, h]
    exact snd_int (ovr_snd _)
  · rw [if_neg (by omega), if_pos h, h]
    exact Or.inl ⟨rfl, good_num _, ok_num (numW_lt _ (negF_lt ka.2.2)), rfl⟩
theorem snd_float (a : Vl) (ha : goodV a = true) (h1 : a.k = 1) : Snd (floatV a) 4 := by
  unfold floatV
  rw [if_pos (by rw [ha, h1]; rfl)]
  have hw := floatOfInt_wf .f64 a.i
  have hl : decide (floatOfInt .f64 a.i < 2 ^ 64) = true := hw
  exact Or.inl ⟨rfl, good_num _, ok_num (numW_lt _ (by simpa using hl)), rfl⟩
theorem snd_truth (b : Bool) : Snd (vTruth b, 0) 2 := Or.inl ⟨rfl, good_truth b, ok_truth b, rfl⟩

theorem chkL_ok (f : Ex → Int × Int) : ∀ ks l, chkL f ks = (l, 0) → l = ks.map (fun k => (f k).1) ∧ ∀ k ∈ ks, (f k).2 = 0
  | [], l, h => by
    injection h with h
    exact ⟨h.symm, fun k hk => by cases hk⟩
  | k :: ks, l, h => by
    unfold chkL at h
    split at h
    · rename_i h0; injection h with _ h; exact absurd h h0
    rename_i h0
    split at h
    · rename_i h1; injection h with _ h; exact absurd h h1
    rename_i h1
    injection h with h _
    obtain ⟨h2, h3⟩ := chkL_ok f ks (chkL f ks).1 (by rw [← (show (chkL f ks).2 = 0 by omega)])
    refine ⟨by rw [← h, List.map_cons, ← h2], fun x hx => ?_⟩
    rcases List.mem_cons.1 hx with rfl | hx
    · omega
    · exact h3 x hx
theorem chkX_ok {d : Nat} {e : Ex} {fs : List Fd} {k : Int} (h : chkX (d + 1) e fs = (k, 0)) : kindX e (e.kids.map fun x => (chkX d x fs).1) fs = (k, 0) ∧ ∀ x ∈ e.kids, (chkX d x fs).2 = 0 := by
  unfold chkX at h
  split at h
  · rename_i h0; injection h with _ h; exact absurd h h0
  · rename_i h0
    obtain ⟨h1, h2⟩ := chkL_ok (fun k => chkX d k fs) e.kids (chkL (fun k => chkX d k fs) e.kids).1 (by rw [← (show (chkL (fun k => chkX d k fs) e.kids).2 = 0 by omega)])
    rw [h1] at h
    exact ⟨h, h2⟩
/-- what is known of a part of a right form -/
theorem kindX_form {e : Ex} {l : List Int} {fs : List Fd} {k : Int} (h : kindX e l fs = (k, 0)) : kidsN e.op = e.kids.length ∧ (e.op ≠ 2 → e.name.toList = []) ∧ (e.op ≠ 1 → sameV e.val ⟨0, 0, false, ⟨#[]⟩, 0⟩ = true) := by
  unfold kindX at h
  by_cases h0 : kidsN e.op ≠ e.kids.length ∨ (e.op ≠ 2 ∧ e.name.toList ≠ []) ∨ (e.op ≠ 1 ∧ sameV e.val ⟨0, 0, false, ⟨#[]⟩, 0⟩ = false)
  · rw [if_pos h0] at h
    injection h with _ h; exact absurd h (by decide)
  · refine ⟨?_, ?_, ?_⟩
    · by_cases h1 : kidsN e.op = e.kids.length
      · exact h1
      · exact absurd (Or.inl h1) h0
    · intro h2
      by_cases h1 : e.name.toList = []
      · exact h1
      · exact absurd (Or.inr (Or.inl ⟨h2, h1⟩)) h0
    · intro h2
      rcases h1 : sameV e.val ⟨0, 0, false, ⟨#[]⟩, 0⟩ with _ | _
      · exact absurd (Or.inr (Or.inr ⟨h2, h1⟩)) h0
      · rfl
/-- .. and of its kids' kinds -/
theorem kindX_kinds {e : Ex} {l : List Int} {fs : List Fd} {k : Int} (h : kindX e l fs = (k, 0)) :
    (e.op = 1 ∧ goodV e.val = true ∧ k = e.val.k) ∨ (e.op = 2 ∧ 0 ≤ findX e.name fs 0 ∧ k = (fs[(findX e.name fs 0).toNat]?.map Fd.kind).getD 0)
    ∨ (e.op = 3 ∧ (l.getD 0 0 = 1 ∨ l.getD 0 0 = 4) ∧ k = l.getD 0 0) ∨ (e.op = 16 ∧ l.getD 0 0 = 1 ∧ k = 4) ∨ (e.op = 12 ∧ l.getD 0 0 = 2 ∧ k = 2)
    ∨ ((e.op = 10 ∨ e.op = 11) ∧ l.getD 0 0 = 2 ∧ l.getD 1 0 = 2 ∧ k = 2) ∨ (e.op = 8 ∧ l.getD 0 0 = l.getD 1 0 ∧ k = 2)
    ∨ (e.op = 9 ∧ l.getD 0 0 = l.getD 1 0 ∧ (l.getD 0 0 = 1 ∨ l.getD 0 0 = 3 ∨ l.getD 0 0 = 4) ∧ k = 2) ∨ (e.op = 13 ∧ l.getD 0 0 = 2 ∧ l.getD 1 0 = l.getD 2 0 ∧ k = l.getD 1 0)
    ∨ (opsB e.op = true ∧ l.getD 0 0 = l.getD 1 0 ∧ (l.getD 0 0 = 1 ∨ l.getD 0 0 = 4) ∧ k = l.getD 0 0) := by
  have hform := (kindX_form h).1
  unfold kindX at h
  by_cases h0 : kidsN e.op ≠ e.kids.length ∨ (e.op ≠ 2 ∧ e.name.toList ≠ []) ∨ (e.op ≠ 1 ∧ sameV e.val ⟨0, 0, false, ⟨#[]⟩, 0⟩ = false)
  · rw [if_pos h0] at h
    injection h with _ h; exact absurd h (by decide)
  rw [if_neg h0] at h
  clear h0
  by_cases o1 : e.op = 1
  · rw [if_pos o1] at h
    split at h
    · rename_i hg; injection h with h; exact Or.inl ⟨o1, hg, h.symm⟩
    · injection h with _ h; exact absurd h (by decide)
  rw [if_neg o1] at h
  by_cases o2 : e.op = 2
  · rw [if_pos o2] at h
    split at h
    · injection h with _ h; exact absurd h (by decide)
    · rename_i hg; injection h with h; exact Or.inr (Or.inl ⟨o2, by omega, h.symm⟩)
  rw [if_neg o2] at h
  by_cases o3 : e.op = 3
  · rw [if_pos o3] at h
    split at h
    · rename_i hg; injection h with h; exact Or.inr (Or.inr (Or.inl ⟨o3, hg, h.symm⟩))
    · injection h with _ h; exact absurd h (by decide)
  rw [if_neg o3] at h
  by_cases o16 : e.op = 16
  · rw [if_pos o16] at h
    split at h
    · rename_i hg; injection h with h; exact Or.inr (Or.inr (Or.inr (Or.inl ⟨o16, hg, h.symm⟩)))
    · injection h with _ h; exact absurd h (by decide)
  rw [if_neg o16] at h
  by_cases o12 : e.op = 12
  · rw [if_pos o12] at h
    split at h
    · rename_i hg; injection h with h; exact Or.inr (Or.inr (Or.inr (Or.inr (Or.inl ⟨o12, hg, h.symm⟩))))
    · injection h with _ h; exact absurd h (by decide)
  rw [if_neg o12] at h
  by_cases o10 : e.op = 10 ∨ e.op = 11
  · rw [if_pos o10] at h
    split at h
    · rename_i hg; injection h with h; exact Or.inr (Or.inr (Or.inr (Or.inr (Or.inr (Or.inl ⟨o10, hg.1, hg.2, h.symm⟩)))))
    · injection h with _ h; exact absurd h (by decide)
  rw [if_neg o10] at h
  by_cases o8 : e.op = 8
  · rw [if_pos o8] at h
    split at h
    · rename_i hg; injection h with h; exact Or.inr (Or.inr (Or.inr (Or.inr (Or.inr (Or.inr (Or.inl ⟨o8, hg, h.symm⟩))))))
    · injection h with _ h; exact absurd h (by decide)
  rw [if_neg o8] at h
  by_cases o9 : e.op = 9
  · rw [if_pos o9] at h
    split at h
    · rename_i hg; injection h with h; exact Or.inr (Or.inr (Or.inr (Or.inr (Or.inr (Or.inr (Or.inr (Or.inl ⟨o9, hg.1, hg.2, h.symm⟩)))))))
    · injection h with _ h; exact absurd h (by decide)
  rw [if_neg o9] at h
  by_cases o13 : e.op = 13
  · rw [if_pos o13] at h
    split at h
    · rename_i hg; injection h with h; exact Or.inr (Or.inr (Or.inr (Or.inr (Or.inr (Or.inr (Or.inr (Or.inr (Or.inl ⟨o13, hg.1, hg.2, h.symm⟩))))))))
    · injection h with _ h; exact absurd h (by decide)
  rw [if_neg o13] at h
  split at h
  · rename_i hg
    injection h with h
    refine Or.inr (Or.inr (Or.inr (Or.inr (Or.inr (Or.inr (Or.inr (Or.inr (Or.inr ⟨?_, hg.1, hg.2, h.symm⟩))))))))
    have hk : (0 : Int) ≤ kidsN e.op := by omega
    unfold kidsN at hk
    rw [if_neg (by omega), if_neg (by omega), if_neg o13] at hk
    split at hk
    · rename_i h10
      unfold opsB
      simp only [Bool.or_eq_true, beq_iff_eq]
      omega
    · omega
  · injection h with _ h; exact absurd h (by decide)
end Go.Proofs.YtkhpgejammgolaaGreat

/- Layer 5: .. by the depth. -/
namespace Go.Proofs.YtkhpgejammgolaaGreat
open Go.RowKit
set_option linter.unusedVariables false
set_option linter.unusedSimpArgs false

theorem Snd.cases {r : Vl × Int} {k : Int} (h : Snd r k) : (r = (r.1, 0) ∧ goodV r.1 = true ∧ okV r.1 ∧ r.1.k = k) ∨ (r.2 ≠ 0 ∧ Snd (vZero, r.2) k ∧ ∀ k', Snd (vZero, r.2) k') := by
  rcases h with ⟨h1, h2⟩ | ⟨h1, h2⟩
  · exact Or.inl ⟨by rw [← h1], h2⟩
  · exact Or.inr ⟨by omega, Or.inr ⟨h1, rfl⟩, fun _ => Or.inr ⟨h1, rfl⟩⟩
theorem pair_of {p : Int × Int} (h : p.2 = 0) : p = (p.1, 0) := by rw [← h]

theorem fit_at {fs : List Fd} {vs : List Vl} (hf : fitX fs vs = true) (j : Nat) (hj : j < fs.length) : ∃ v, vs[j]? = some v ∧ goodV v = true ∧ v.k = ((fs[j]?.map Fd.kind).getD 0) := by
  unfold fitX at hf
  rw [Bool.and_eq_true, beq_iff_eq, List.all_eq_true] at hf
  obtain ⟨h1, h2⟩ := hf
  have hjv : j < vs.length := by omega
  have hz : j < (fs.zip vs).length := by rw [List.length_zip]; omega
  have h3 := h2 _ (List.getElem_mem hz)
  rw [List.getElem_zip, Bool.and_eq_true, beq_iff_eq] at h3
  exact ⟨vs[j], List.getElem?_eq_getElem hjv, h3.1, by rw [List.getElem?_eq_getElem hj]; exact h3.2⟩

/-- what two kids tell, and a part that reckons with both -/
theorem snd_two {ra rb : Vl × Int} {ka kb k : Int} {f : Vl → Vl → Vl × Int} (ia : Snd ra ka) (ib : Snd rb kb) (hf : ∀ x y, goodV x = true → okV x → x.k = ka → goodV y = true → okV y → y.k = kb → Snd (f x y) k) :
    Snd (if ra.2 ≠ 0 then (vZero, ra.2) else if rb.2 ≠ 0 then (vZero, rb.2) else f ra.1 rb.1) k := by
  rcases ia.cases with ⟨c0, c1, c2, c3⟩ | ⟨c0, -, c1⟩
  · rw [if_neg (by rw [c0]; simp)]
    rcases ib.cases with ⟨e0, e1, e2, e3⟩ | ⟨e0, -, e1⟩
    · rw [if_neg (by rw [e0]; simp)]
      exact hf _ _ c1 c2 c3 e1 e2 e3
    · rw [if_pos e0]; exact e1 _
  · rw [if_pos c0]; exact c1 _
theorem evX_one {d : Nat} {e a : Ex} {fs : List Fd} {vs : List Vl} (hk : e.kids = [a]) (h : e.op = 3 ∨ e.op = 16 ∨ e.op = 12) :
    evX (d + 1) e fs vs = if (evX d a fs vs).2 ≠ 0 then (vZero, (evX d a fs vs).2) else if e.op = 3 then negV (evX d a fs vs).1 else if e.op = 16 then floatV (evX d a fs vs).1 else (vTruth (!(evX d a fs vs).1.b), 0) := by
  rw [evX, if_neg (by omega), if_neg (by omega), hk]
  dsimp only
  by_cases h3 : e.op = 3
  · rw [if_pos h3, if_pos h3]
  by_cases h6 : e.op = 16
  · rw [if_neg h3, if_pos h6, if_neg h3, if_pos h6]
  · rw [if_neg h3, if_neg h6, if_pos (show e.op = 12 by omega), if_neg h3, if_neg h6]
theorem evX_lazy {d : Nat} {e a b : Ex} {fs : List Fd} {vs : List Vl} (hk : e.kids = [a, b]) (h : e.op = 10 ∨ e.op = 11) :
    evX (d + 1) e fs vs = if (evX d a fs vs).2 ≠ 0 then (vZero, (evX d a fs vs).2) else if (evX d a fs vs).1.b = decide (e.op = 11) then ((evX d a fs vs).1, 0) else evX d b fs vs := by
  rw [evX, if_neg (by omega), if_neg (by omega), hk]
  dsimp only
  rw [if_neg (show ¬ e.op = 3 by omega), if_neg (show ¬ e.op = 16 by omega), if_neg (show ¬ e.op = 12 by omega), if_pos h]
theorem evX_if {d : Nat} {e a b c : Ex} {fs : List Fd} {vs : List Vl} (hk : e.kids = [a, b, c]) (h : e.op = 13) :
    evX (d + 1) e fs vs = if (evX d a fs vs).2 ≠ 0 then (vZero, (evX d a fs vs).2) else if (evX d a fs vs).1.b then evX d b fs vs else evX d c fs vs := by
  rw [evX, if_neg (by omega), if_neg (by omega), hk]
  dsimp only
  rw [if_neg (show ¬ e.op = 3 by omega), if_neg (show ¬ e.op = 16 by omega), if_neg (show ¬ e.op = 12 by omega), if_neg (show ¬ (e.op = 10 ∨ e.op = 11) by omega), if_pos h]
theorem evX_two {d : Nat} {e a b : Ex} {fs : List Fd} {vs : List Vl} (hk : e.kids = [a, b]) (h : e.op = 4 ∨ e.op = 5 ∨ e.op = 6 ∨ e.op = 7 ∨ e.op = 14 ∨ e.op = 15 ∨ e.op = 8 ∨ e.op = 9) :
    evX (d + 1) e fs vs = if (evX d a fs vs).2 ≠ 0 then (vZero, (evX d a fs vs).2) else if (evX d b fs vs).2 ≠ 0 then (vZero, (evX d b fs vs).2)
      else if e.op = 8 then (vTruth (eqV (evX d a fs vs).1 (evX d b fs vs).1).1, 0) else if e.op = 9 then (vTruth (ltV (evX d a fs vs).1 (evX d b fs vs).1).1, 0) else reckV e.op (evX d a fs vs).1 (evX d b fs vs).1 := by
  rw [evX, if_neg (by omega), if_neg (by omega), hk]
  dsimp only
  rw [if_neg (show ¬ e.op = 3 by omega), if_neg (show ¬ e.op = 16 by omega), if_neg (show ¬ e.op = 12 by omega), if_neg (show ¬ (e.op = 10 ∨ e.op = 11) by omega), if_neg (show ¬ e.op = 13 by omega)]
theorem kids_one {l : List Ex} (h : l.length = 1) : ∃ a, l = [a] := List.length_eq_one_iff.1 h
theorem kids_two {l : List Ex} (h : l.length = 2) : ∃ a b, l = [a, b] := by
  match l, h with
  | [a, b], _ => exact ⟨a, b, rfl⟩
theorem kids_three {l : List Ex} (h : l.length = 3) : ∃ a b c, l = [a, b, c] := by
  match l, h with
  | [a, b, c], _ => exact ⟨a, b, c, rfl⟩
theorem kidsN_1 {o : Int} (h : o = 3 ∨ o = 12 ∨ o = 16) : kidsN o = 1 := by unfold kidsN; rw [if_neg (by omega), if_pos h]
theorem kidsN_2 {o : Int} (h : o = 4 ∨ o = 5 ∨ o = 6 ∨ o = 7 ∨ o = 14 ∨ o = 15 ∨ o = 8 ∨ o = 9 ∨ o = 10 ∨ o = 11) : kidsN o = 2 := by unfold kidsN; rw [if_neg (by omega), if_neg (by omega), if_neg (by omega), if_pos h]
theorem kidsN_3 {o : Int} (h : o = 13) : kidsN o = 3 := by unfold kidsN; rw [if_neg (by omega), if_neg (by omega), if_pos h]
theorem opsB_iff (o : Int) : opsB o = true ↔ o = 4 ∨ o = 5 ∨ o = 6 ∨ o = 7 ∨ o = 14 ∨ o = 15 := by
  unfold opsB
  simp only [Bool.or_eq_true, beq_iff_eq]
  omega

theorem ev_sound (fs : List Fd) (vs : List Vl) (hf : fitX fs vs = true) (hv : ∀ v ∈ vs, okV v) : ∀ d e k, okX d e → deepX d e → chkX d e fs = (k, 0) → Snd (evX d e fs vs) k
  | 0, e, k, _, hd, _ => False.elim hd
  | d + 1, e, k, hok, hd, h => by
    obtain ⟨h1, h2⟩ := chkX_ok h
    have hform := (kindX_form h1).1
    have ih : ∀ x ∈ e.kids, Snd (evX d x fs vs) (chkX d x fs).1 := fun x hx => ev_sound fs vs hf hv d x _ (hok.2.2 x hx) (hd x hx) (pair_of (h2 x hx))
    have hk := kindX_kinds h1
    clear h h1 h2 hd
    rcases hk with ⟨o, g, rfl⟩ | ⟨o, g, rfl⟩ | ⟨o, g, rfl⟩ | ⟨o, g, rfl⟩ | ⟨o, g, rfl⟩ | ⟨o, g1, g2, rfl⟩ | ⟨o, g, rfl⟩ | ⟨o, g, g1, rfl⟩ | ⟨o, g1, g2, rfl⟩ | ⟨o, g, g1, rfl⟩
    · rw [evX, if_pos o]
      exact Or.inl ⟨rfl, g, hok.1, rfl⟩
    · rw [evX, if_neg (by omega), if_pos o]
      obtain ⟨j, hj, hl⟩ := findX_at e.name fs 0 g
      have hjj : (findX e.name fs 0).toNat = j := by omega
      rw [hjj]
      obtain ⟨v, e1, e2, e3⟩ := fit_at hf j hl
      rw [e1]
      exact Or.inl ⟨rfl, e2, hv v (List.mem_of_getElem? e1), e3⟩
    · obtain ⟨a, ha⟩ := kids_one (l := e.kids) (by rw [kidsN_1 (Or.inl o)] at hform; omega)
      rw [evX_one ha (Or.inl o)]
      rw [ha] at g ih ⊢
      simp only [List.map_cons, List.map_nil, List.getD_cons_zero] at g ⊢
      rcases (ih a (List.mem_cons_self ..)).cases with ⟨c0, c1, c2, c3⟩ | ⟨c0, -, c1⟩
      · rw [if_neg (by rw [c0]; simp), if_pos o]
        have h := snd_neg (evX d a fs vs).1 c1 c2 (by rw [c3]; exact g)
        rwa [c3] at h
      · rw [if_pos c0]; exact c1 _
    · obtain ⟨a, ha⟩ := kids_one (l := e.kids) (by rw [kidsN_1 (Or.inr (Or.inr o))] at hform; omega)
      rw [evX_one ha (Or.inr (Or.inl o))]
      rw [ha] at g ih
      simp only [List.map_cons, List.map_nil, List.getD_cons_zero] at g
      rcases (ih a (List.mem_cons_self ..)).cases with ⟨c0, c1, c2, c3⟩ | ⟨c0, -, c1⟩
      · rw [if_neg (by rw [c0]; simp), if_neg (by omega), if_pos o]
        exact snd_float (evX d a fs vs).1 c1 (by rw [c3]; exact g)
      · rw [if_pos c0]; exact c1 _
    · obtain ⟨a, ha⟩ := kids_one (l := e.kids) (by rw [kidsN_1 (Or.inr (Or.inl o))] at hform; omega)
      rw [evX_one ha (Or.inr (Or.inr o))]
      rw [ha] at g ih
      simp only [List.map_cons, List.map_nil, List.getD_cons_zero] at g
      rcases (ih a (List.mem_cons_self ..)).cases with ⟨c0, c1, c2, c3⟩ | ⟨c0, -, c1⟩
      · rw [if_neg (by rw [c0]; simp), if_neg (by omega), if_neg (by omega)]
        exact snd_truth _
      · rw [if_pos c0]; exact c1 _
    · obtain ⟨a, b, ha⟩ := kids_two (l := e.kids) (by rw [kidsN_2 (by omega)] at hform; omega)
      rw [evX_lazy ha o]
      rw [ha] at g1 g2 ih
      simp only [List.map_cons, List.map_nil, List.getD_cons_zero, List.getD_cons_succ] at g1 g2
      have ib := ih b (by simp)
      rw [g2] at ib
      rcases (ih a (List.mem_cons_self ..)).cases with ⟨c0, c1, c2, c3⟩ | ⟨c0, -, c1⟩
      · rw [if_neg (by rw [c0]; simp)]
        split
        · exact Or.inl ⟨rfl, c1, c2, by rw [c3]; exact g1⟩
        · exact ib
      · rw [if_pos c0]; exact c1 _
    · obtain ⟨a, b, ha⟩ := kids_two (l := e.kids) (by rw [kidsN_2 (by omega)] at hform; omega)
      rw [evX_two ha (by omega), if_pos o]
      rw [ha] at ih
      exact snd_two (f := fun x y => (vTruth (eqV x y).1, 0)) (ih a (List.mem_cons_self ..)) (ih b (by simp)) (fun x y _ _ _ _ _ _ => snd_truth _)
    · obtain ⟨a, b, ha⟩ := kids_two (l := e.kids) (by rw [kidsN_2 (by omega)] at hform; omega)
      rw [evX_two ha (by omega), if_neg (show ¬ e.op = 8 by omega), if_pos o]
      rw [ha] at ih
      exact snd_two (f := fun x y => (vTruth (ltV x y).1, 0)) (ih a (List.mem_cons_self ..)) (ih b (by simp)) (fun x y _ _ _ _ _ _ => snd_truth _)
    · obtain ⟨a, b, c, ha⟩ := kids_three (l := e.kids) (by rw [kidsN_3 o] at hform; omega)
      rw [evX_if ha o]
      rw [ha] at g1 g2 ih ⊢
      simp only [List.map_cons, List.map_nil, List.getD_cons_zero, List.getD_cons_succ] at g1 g2 ⊢
      have ib := ih b (by simp)
      have ic := ih c (by simp)
      rcases (ih a (List.mem_cons_self ..)).cases with ⟨c0, c1, c2, c3⟩ | ⟨c0, -, c1⟩
      · rw [if_neg (by rw [c0]; simp)]
        split
        · exact ib
        · rw [g2]; exact ic
      · rw [if_pos c0]; exact c1 _
    · have ho := (opsB_iff e.op).1 o
      obtain ⟨a, b, ha⟩ := kids_two (l := e.kids) (by rw [kidsN_2 (by omega)] at hform; omega)
      rw [evX_two ha (by omega), if_neg (show ¬ e.op = 8 by omega), if_neg (show ¬ e.op = 9 by omega)]
      rw [ha] at g g1 ih ⊢
      simp only [List.map_cons, List.map_nil, List.getD_cons_zero, List.getD_cons_succ] at g g1 ⊢
      exact snd_two (f := fun x y => reckV e.op x y) (ih a (List.mem_cons_self ..)) (ih b (by simp)) (fun x y x1 x2 x3 y1 y2 y3 => by
        have h := snd_reck e.op x y o x1 y1 x2 y2 (by rw [x3, y3, g]) (by rw [x3]; exact g1)
        rwa [x3] at h)
end Go.Proofs.YtkhpgejammgolaaGreat

/- Layer 5: an expression hangs on what it names alone; what does not count is not reckoned. By definition. -/
namespace Go.Proofs.YtkhpgejammgolaaGreat
open Go.RowKit
set_option linter.unusedVariables false
set_option linter.unusedSimpArgs false

/-- a constant; what divides by nought -/
def conX (v : Vl) : Ex := .mk 1 ⟨#[]⟩ v []
def opX (o : Int) (ks : List Ex) : Ex := .mk o ⟨#[]⟩ vZero ks
def nought : Ex := opX 8 [opX 7 [conX (vInt 1), conX (vInt 0)], conX (vInt 1)]
theorem same_zero : sameV vZero ⟨0, 0, false, ⟨#[]⟩, 0⟩ = true := by unfold sameV; simp
theorem kind_con (v : Vl) (fs : List Fd) (hg : goodV v = true) : kindX (conX v) [] fs = (v.k, 0) := by
  unfold kindX
  rw [if_neg (by
    intro h
    rcases h with h | h | h
    · exact h rfl
    · have e : (conX v).name.toList = [] := empty_list
      exact h.2 e
    · exact h.1 rfl)]
  rw [if_pos (show (conX v).op = 1 from rfl), if_pos (show goodV (conX v).val = true from hg)]
  rfl
theorem chk_con (d : Nat) (v : Vl) (fs : List Fd) (hg : goodV v = true) : chkX (d + 1) (conX v) fs = (v.k, 0) := kind_con v fs hg
theorem form_op {o : Int} {ks : List Ex} (hk : kidsN o = ks.length) : ¬ (kidsN (opX o ks).op ≠ (opX o ks).kids.length ∨ ((opX o ks).op ≠ 2 ∧ (opX o ks).name.toList ≠ []) ∨ ((opX o ks).op ≠ 1 ∧ sameV (opX o ks).val ⟨0, 0, false, ⟨#[]⟩, 0⟩ = false)) := by
  intro h
  rcases h with h | h | h
  · exact h hk
  · have e : (opX o ks).name.toList = [] := empty_list
    exact h.2 e
  · have h2 := h.2
    rw [show (opX o ks).val = vZero from rfl, same_zero] at h2
    cases h2
theorem chkL_cons {f : Ex → Int × Int} {k : Ex} {ks : List Ex} {x : Int} {l : List Int} (h1 : f k = (x, 0)) (h2 : chkL f ks = (l, 0)) : chkL f (k :: ks) = (x :: l, 0) := by
  rw [chkL, h1, h2]
  rfl
theorem chk_op {d : Nat} {o : Int} {ks : List Ex} {fs : List Fd} {l : List Int} {r : Int × Int} (h : chkL (fun k => chkX d k fs) ks = (l, 0)) (hr : kindX (opX o ks) l fs = r) : chkX (d + 1) (opX o ks) fs = r := by
  rw [chkX, show (opX o ks).kids = ks from rfl, h]
  exact hr
theorem kind_div (fs : List Fd) : kindX (opX 7 [conX (vInt 1), conX (vInt 0)]) [1, 1] fs = (1, 0) := by
  unfold kindX
  rw [if_neg (form_op (by decide))]
  rfl
theorem kind_eq (ks : List Ex) (a b : Int) (fs : List Fd) (h : ks.length = 2) (hab : a = b) : kindX (opX 8 ks) [a, b] fs = (2, 0) := by
  subst hab
  unfold kindX
  rw [if_neg (form_op (by rw [h]; decide))]
  have e : (opX 8 ks).op = 8 := rfl
  rw [e]
  simp
theorem kind_or (ks : List Ex) (o : Int) (fs : List Fd) (ho : o = 10 ∨ o = 11) (h : ks.length = 2) : kindX (opX o ks) [2, 2] fs = (2, 0) := by
  unfold kindX
  rw [if_neg (form_op (by rw [h, kidsN_2 (by omega)]; rfl))]
  have e : (opX o ks).op = o := rfl
  rw [e]
  rcases ho with rfl | rfl <;> simp
theorem chk_nought (d : Nat) (fs : List Fd) : chkX (d + 3) nought fs = (2, 0) := by
  refine chk_op (d := d + 2) (chkL_cons (chk_op (d := d + 1) (chkL_cons (chk_con d _ fs (good_int 1)) (chkL_cons (chk_con d _ fs (good_int 0)) rfl)) (kind_div fs)) (chkL_cons (chk_con (d + 1) _ fs (good_int 1)) rfl)) ?_
  exact kind_eq _ 1 1 fs rfl rfl
theorem ev_con (d : Nat) (v : Vl) (fs : List Fd) (vs : List Vl) : evX (d + 1) (conX v) fs vs = (v, 0) := by
  rw [evX, if_pos (show (conX v).op = 1 from rfl)]
  rfl
end Go.Proofs.YtkhpgejammgolaaGreat

/- Layer 5: what reckoning is made of, by the program: panics. -/
namespace Go.Proofs.YtkhpgejammgolaaGreat
open Go.RowKit
set_option linter.unusedVariables false
set_option linter.unusedSimpArgs false
set_option maxRecDepth 20000

/-- the panic of an error -/
abbrev PV (err : Int) : List PanicEntry := [{ v := .iface 33 (.int .i64 err), recovered := false }]
/-- an answer, or the panic of an error -/
def TellP (r : Vl × Int) (w : World) (e : Ending) (w' : World) : Prop := e = (if r.2 = 0 then .returned (agV r.1) else .panicked (PV r.2)) ∧ Below w.heap.size w w'

theorem sure_ok (v : Vl) (w : World) : Calls Tryz.prog 185 #[agV v, .int .i64 0] w (VMk (agV v) w) := by
  have hsf := fun (w : World) (a : Addr) (m : Mode) (b : Nat) => run_store Tryz.prog w a (.float .f64 b) m rfl
  go_enter Tryz.func185, Tryz.ntmps185
  go_wp2
  exact bodyPost_ret (v := agV v) (by simp [results, Tryz.results185, go_sem]) rfl ⟨rfl, vbox2 w _ _⟩
theorem sure_bad (v : Vl) (err : Int) (h : err ≠ 0) (w : World) : Calls Tryz.prog 185 #[agV v, .int .i64 err] w fun e w' => e = .panicked (PV err) ∧ Below w.heap.size w w' := by
  have h2 : (err != 0) = true := by simpa using h
  go_enter Tryz.func185, Tryz.ntmps185
  go_wp2
  exact ⟨rfl, rfl, vbox2 w _ _⟩
theorem sureB_ok (b : Bool) (w : World) : Calls Tryz.prog 218 #[.bool b, .int .i64 0] w (VGv (.bool b) w) := by
  go_enter Tryz.func218, Tryz.ntmps218
  go_wp2
  go_ret
  exact ⟨rfl, rfl⟩
theorem etruth_any (b : Bool) (w : World) : Calls Tryz.prog 189 #[.bool b] w (VMk (agV (vTruth b)) w) := by
  have hsf := fun (w : World) (a : Addr) (m : Mode) (b : Nat) => run_store Tryz.prog w a (.float .f64 b) m rfl
  go_enter Tryz.func189, Tryz.ntmps189
  go_wp2
  exact bodyPost_ret (v := agV (vTruth b)) (by simp [results, Tryz.results189, go_sem]) rfl ⟨rfl, (Below.refl _ _).alloc (Nat.le_refl _) _⟩

/-- what an op makes of two -/
def pairX (op : Int) (a b : Vl) : Vl × Int := if op = 8 then (vTruth (eqV a b).1, 0) else if op = 9 then (vTruth (ltV a b).1, 0) else reckV op a b
set_option maxHeartbeats 2000000 in
theorem pair_any (op : Int) (a b : Vl) (w : World) (ha : okV a) (hb : okV b) (h8 : op = 8 → (eqV a b).2 = 0) (h9 : op = 9 → (ltV a b).2 = 0) : Calls Tryz.prog 190 #[.int .i64 op, agV a, agV b] w (TellP (pairX op a b) w) := by
  have hsf := fun (w : World) (a : Addr) (m : Mode) (b : Nat) => run_store Tryz.prog w a (.float .f64 b) m rfl
  have htr := etruth_any
  have HTR := Lib.hid htr
  clear htr
  by_cases o8 : op = 8
  · subst o8
    have hq : ∀ W, Calls Tryz.prog 219 #[agV a, agV b] W (VMk (pairBE (eqV a b).1 0) W) := fun W => by have := Equal_val a b W; rwa [h8 rfl] at this
    have hr : pairX 8 a b = (vTruth (eqV a b).1, 0) := rfl
    rw [hr]
    clear hr h8 h9
    generalize (eqV a b).1 = r at hq ⊢
    have HQ := Lib.hid hq
    clear hq
    go_enter Tryz.func190, Tryz.ntmps190
    go_wp2_with (first
      | (go_at_call 219; refine (HQ.out _).mono ?_; rintro e w1 ⟨rfl, hb1⟩; obtain ⟨hc1, hf1⟩ := bcell hb1; have hz0 : w.heap.size < w1.heap.size := by { have := hb1.size; simp at this; omega }; have hz1 : w.heap.size + 1 < w1.heap.size := by { have := hb1.size; simp at this; omega }; have hz2 : w.heap.size + 2 < w1.heap.size := by { have := hb1.size; simp at this; omega })
      | (go_at_call 218; refine (sureB_ok _ _).mono ?_; rintro e w2 ⟨rfl, rfl⟩)
      | (go_at_call 189; refine (HTR.out _ _).mono ?_; rintro e w3 ⟨rfl, hb3⟩; obtain ⟨hc3, hf3⟩ := bcell hb3; have hy2 : w.heap.size + 2 < w3.heap.size := by { have := hb3.size; omega }))
    exact bodyPost_ret (v := agV (vTruth r)) (by simp [results, Tryz.results190, go_sem, hc1, hc3, hz0, hz1, hz2, hy2]) rfl ⟨rfl, vbox3_set w _ _ _ hb1 hb3 _ _ _ _ _⟩
  by_cases o9 : op = 9
  · subst o9
    have hq : ∀ W, Calls Tryz.prog 220 #[agV a, agV b] W (VMk (pairBE (ltV a b).1 0) W) := fun W => by have := Less_val a b W ha.2.2 hb.2.2; rwa [h9 rfl] at this
    have hr : pairX 9 a b = (vTruth (ltV a b).1, 0) := rfl
    rw [hr]
    clear hr h8 h9
    generalize (ltV a b).1 = r at hq ⊢
    have HQ := Lib.hid hq
    clear hq
    go_enter Tryz.func190, Tryz.ntmps190
    go_wp2_with (first
      | (go_at_call 220; refine (HQ.out _).mono ?_; rintro e w1 ⟨rfl, hb1⟩; obtain ⟨hc1, hf1⟩ := bcell hb1; have hz0 : w.heap.size < w1.heap.size := by { have := hb1.size; simp at this; omega }; have hz1 : w.heap.size + 1 < w1.heap.size := by { have := hb1.size; simp at this; omega }; have hz2 : w.heap.size + 2 < w1.heap.size := by { have := hb1.size; simp at this; omega })
      | (go_at_call 218; refine (sureB_ok _ _).mono ?_; rintro e w2 ⟨rfl, rfl⟩)
      | (go_at_call 189; refine (HTR.out _ _).mono ?_; rintro e w3 ⟨rfl, hb3⟩; obtain ⟨hc3, hf3⟩ := bcell hb3; have hy2 : w.heap.size + 2 < w3.heap.size := by { have := hb3.size; omega }))
    exact bodyPost_ret (v := agV (vTruth r)) (by simp [results, Tryz.results190, go_sem, hc1, hc3, hz0, hz1, hz2, hy2]) rfl ⟨rfl, vbox3_set w _ _ _ hb1 hb3 _ _ _ _ _⟩
  have hr : pairX op a b = reckV op a b := by unfold pairX; rw [if_neg o8, if_neg o9]
  have hq : ∀ W, Calls Tryz.prog 186 #[.int .i64 op, agV a, agV b] W (VMk (pairVE (reckV op a b).1 (reckV op a b).2) W) := fun W => Reckon_any op a b W ha.2.1 hb.2.1 ha.2.2 hb.2.2
  rw [hr]
  have b8 : (op == 8) = false := by simpa using o8
  have b9 : (op == 9) = false := by simpa using o9
  clear hr h8 h9 o8 o9
  generalize reckV op a b = r at hq ⊢
  obtain ⟨r1, r2⟩ := r
  have HQ := Lib.hid hq
  clear hq
  by_cases h0 : r2 = 0
  · subst h0
    go_enter Tryz.func190, Tryz.ntmps190
    go_wp2_with (first
      | (go_at_call 186; refine (HQ.out _).mono ?_; rintro e w1 ⟨rfl, hb1⟩; obtain ⟨hc1, hf1⟩ := bcell hb1; have hz0 : w.heap.size < w1.heap.size := by { have := hb1.size; simp at this; omega }; have hz1 : w.heap.size + 1 < w1.heap.size := by { have := hb1.size; simp at this; omega }; have hz2 : w.heap.size + 2 < w1.heap.size := by { have := hb1.size; simp at this; omega })
      | (go_at_call 185; refine (sure_ok _ _).mono ?_; rintro e w3 ⟨rfl, hb3⟩; obtain ⟨hc3, hf3⟩ := bcell hb3; have hy2 : w.heap.size + 2 < w3.heap.size := by { have := hb3.size; omega }))
    exact bodyPost_ret (v := agV r1) (by simp [results, Tryz.results190, go_sem, hc1, hc3, hz0, hz1, hz2, hy2]) rfl ⟨rfl, vbox3_set w _ _ _ hb1 hb3 _ _ _ _ _⟩
  · have HB := Lib.hid (sure_bad r1 r2 h0)
    have H0 := Lib.hid h0
    clear h0
    go_enter Tryz.func190, Tryz.ntmps190
    go_wp2_with (first
      | (go_at_call 186; refine (HQ.out _).mono ?_; rintro e w1 ⟨rfl, hb1⟩)
      | (go_at_call 185; refine (HB.out _).mono ?_; rintro e w3 ⟨rfl, hb3⟩))
    exact ⟨rfl, (if_neg H0.out).symm, (vbox3 w _ _ _).trans ((hb1.mono (by simp; omega)).trans (hb3.mono (by have := hb1.size; simp at this; omega)))⟩
end Go.Proofs.YtkhpgejammgolaaGreat

/- Layer 5: what a part tells, by the program. (Made by gen/gentell.py.) -/
namespace Go.Proofs.YtkhpgejammgolaaGreat
open Go.RowKit
set_option linter.unusedVariables false
set_option linter.unusedSimpArgs false
set_option maxRecDepth 20000

theorem alloc1 (W : World) (o : Obj) : Below W.heap.size W (W.alloc o) := (Below.refl _ _).alloc (Nat.le_refl _) o
/-- a reckoner -/
abbrev agR (FA : Option Addr) (fn FC : Nat) (VA : Option Addr) (vn VC : Nat) : Value := .agg #[.slice FA fn FC, .slice VA vn VC]
/-- the world behind tell's boxes -/
abbrev WTell (w : World) (FA : Option Addr) (fn FC : Nat) (VA : Option Addr) (vn VC : Nat) (op : Int) (A : Option Addr) (n c : Nat) (nm : ByteArray) (v : Vl) : World :=
  ((w.alloc (.cells #[.slice FA fn FC, .slice VA vn VC] 126)).alloc (bxX op A n c nm v)).alloc (.cells #[.int .i64 0, .int .i64 0, .bool false, .string { data := #[] }, .float .f64 0] 25)
/-- what is kept of them -/
def TB (w : World) (FA : Option Addr) (fn FC : Nat) (VA : Option Addr) (vn VC : Nat) (op : Int) (A : Option Addr) (n c : Nat) (nm : ByteArray) (v : Vl) (W : World) : Prop :=
  Below w.heap.size w W ∧ w.heap.size + 3 ≤ W.heap.size ∧ W.cell? ⟨w.heap.size, 0, none⟩ = some (.slice FA fn FC) ∧ W.cell? ⟨w.heap.size, 1, none⟩ = some (.slice VA vn VC) ∧ CellsX W (w.heap.size + 1) op A n c nm v ∧
  (∃ cs, W.heap[w.heap.size + 2]? = some (.cells cs 25 (0, 0)) ∧ cs.size = 5)
theorem TB_new (w : World) (FA : Option Addr) (fn FC : Nat) (VA : Option Addr) (vn VC : Nat) (op : Int) (A : Option Addr) (n c : Nat) (nm : ByteArray) (v : Vl) : TB w FA fn FC VA vn VC op A n c nm v (WTell w FA fn FC VA vn VC op A n c nm v) := by
  have h1 := heap_alloc_new w (.cells #[.slice FA fn FC, .slice VA vn VC] 126)
  have hb1 : Below (w.heap.size + 1) (w.alloc (.cells #[.slice FA fn FC, .slice VA vn VC] 126)) (WTell w FA fn FC VA vn VC op A n c nm v) := ((Below.refl _ _).alloc (by simp) _).alloc (by simp) _
  have h2 := Kid_new (w.alloc (.cells #[.slice FA fn FC, .slice VA vn VC] 126)) op A n c nm v
  have hs : (w.alloc (.cells #[.slice FA fn FC, .slice VA vn VC] 126)).heap.size = w.heap.size + 1 := by simp
  rw [hs] at h2
  have h3 := heap_alloc_new ((w.alloc (.cells #[.slice FA fn FC, .slice VA vn VC] 126)).alloc (bxX op A n c nm v)) (.cells #[.int .i64 0, .int .i64 0, .bool false, .string { data := #[] }, .float .f64 0] 25)
  have hs2 : ((w.alloc (.cells #[.slice FA fn FC, .slice VA vn VC] 126)).alloc (bxX op A n c nm v)).heap.size = w.heap.size + 2 := by simp
  rw [hs2] at h3
  refine ⟨vbox3 w _ _ _, by simp, ?_, ?_, h2.below ((Below.refl _ _).alloc (Nat.le_refl _) _), _, h3, rfl⟩
  · exact keepc hb1 (by omega) ((cell_of_row _ _ 0 _ _ (0, 0) h1).trans rfl)
  · exact keepc hb1 (by omega) ((cell_of_row _ _ 1 _ _ (0, 0) h1).trans rfl)
theorem TB.below {w : World} {FA : Option Addr} {fn FC : Nat} {VA : Option Addr} {vn VC : Nat} {op : Int} {A : Option Addr} {n c : Nat} {nm : ByteArray} {v : Vl} {W W' : World} (h : TB w FA fn FC VA vn VC op A n c nm v W) (hb : Below W.heap.size W W') : TB w FA fn FC VA vn VC op A n c nm v W' := by
  obtain ⟨h0, h1, h2, h3, h4, cs, h5, h6⟩ := h
  exact ⟨h0.trans (hb.mono h0.size), Nat.le_trans h1 hb.size, keepc hb (by omega) h2, keepc hb (by omega) h3, h4.below hb, cs, (hb.block _ (by omega)).trans h5, h6⟩
theorem TB.below3 {w : World} {FA : Option Addr} {fn FC : Nat} {VA : Option Addr} {vn VC : Nat} {op : Int} {A : Option Addr} {n c : Nat} {nm : ByteArray} {v : Vl} {W W' : World} (h : TB w FA fn FC VA vn VC op A n c nm v W) (hb : Below (w.heap.size + 3) W W') : TB w FA fn FC VA vn VC op A n c nm v W' := by
  obtain ⟨h0, h1, h2, h3, h4, cs, h5, h6⟩ := h
  refine ⟨h0.trans (hb.mono (by omega)), Nat.le_trans h1 hb.size, keepc hb (by omega) h2, keepc hb (by omega) h3, ?_, cs, (hb.block _ (by omega)).trans h5, h6⟩
  exact ⟨keepc hb (by omega) h4.1, keepc hb (by omega) h4.2.1, keepc hb (by omega) h4.2.2.1, keepc hb (by omega) h4.2.2.2.1, keepc hb (by omega) h4.2.2.2.2.1, keepc hb (by omega) h4.2.2.2.2.2.1, keepc hb (by omega) h4.2.2.2.2.2.2.1, keepc hb (by omega) h4.2.2.2.2.2.2.2⟩
/-- the answer's block -/
theorem TB.out {w : World} {FA : Option Addr} {fn FC : Nat} {VA : Option Addr} {vn VC : Nat} {op : Int} {A : Option Addr} {n c : Nat} {nm : ByteArray} {v : Vl} {W : World} (h : TB w FA fn FC VA vn VC op A n c nm v W) :
    ∃ u0 u1 u2 u3 u4, W.cell? ⟨w.heap.size + 1 + 1, 0, none⟩ = some u0 ∧ W.cell? ⟨w.heap.size + 1 + 1, 1, none⟩ = some u1 ∧ W.cell? ⟨w.heap.size + 1 + 1, 2, none⟩ = some u2 ∧ W.cell? ⟨w.heap.size + 1 + 1, 3, none⟩ = some u3 ∧ W.cell? ⟨w.heap.size + 1 + 1, 4, none⟩ = some u4 ∧ (∀ j, W.frozen? ⟨w.heap.size + 1 + 1, j, none⟩ = false) := by
  obtain ⟨h0, h1, h2, h3, h4, cs, h5, h6⟩ := h
  have hat : ∀ (j : Nat) (hj : j < 5), W.cell? ⟨w.heap.size + 1 + 1, j, none⟩ = some (cs[j]'(by omega)) := fun j hj => by
    have := cell_of_row W (w.heap.size + 2) j _ _ (0, 0) h5
    rw [this, Array.getElem?_eq_getElem (by omega)]
  exact ⟨_, _, _, _, _, hat 0 (by omega), hat 1 (by omega), hat 2 (by omega), hat 3 (by omega), hat 4 (by omega), fun j => by unfold World.frozen?; have h7 : W.heap[w.heap.size + 1 + 1]? = some (.cells cs 25 (0, 0)) := h5; simp only [h7]; simp⟩
theorem TB.done {w : World} {FA : Option Addr} {fn FC : Nat} {VA : Option Addr} {vn VC : Nat} {op : Int} {A : Option Addr} {n c : Nat} {nm : ByteArray} {v : Vl} {W : World} (h : TB w FA fn FC VA vn VC op A n c nm v W) (u0 u1 u2 u3 u4 : Value) :
    Below w.heap.size w (((((W.setCell ⟨w.heap.size + 2, 0, none⟩ u0).setCell ⟨w.heap.size + 2, 1, none⟩ u1).setCell ⟨w.heap.size + 2, 2, none⟩ u2).setCell ⟨w.heap.size + 2, 3, none⟩ u3).setCell ⟨w.heap.size + 2, 4, none⟩ u4) := below_set5 h.1 (by omega) _ _ _ _ _
/-- the same without the answer -/
def TC (w : World) (FA : Option Addr) (fn FC : Nat) (VA : Option Addr) (vn VC : Nat) (op : Int) (A : Option Addr) (n c : Nat) (nm : ByteArray) (v : Vl) (W : World) : Prop :=
  Below w.heap.size w W ∧ w.heap.size + 2 ≤ W.heap.size ∧ W.cell? ⟨w.heap.size, 0, none⟩ = some (.slice FA fn FC) ∧ W.cell? ⟨w.heap.size, 1, none⟩ = some (.slice VA vn VC) ∧ CellsX W (w.heap.size + 1) op A n c nm v
theorem TB.tc {w : World} {FA : Option Addr} {fn FC : Nat} {VA : Option Addr} {vn VC : Nat} {op : Int} {A : Option Addr} {n c : Nat} {nm : ByteArray} {v : Vl} {W : World} (h : TB w FA fn FC VA vn VC op A n c nm v W) : TC w FA fn FC VA vn VC op A n c nm v W := by
  obtain ⟨h0, h1, h2, h3, h4, h5⟩ := h
  exact ⟨h0, by omega, h2, h3, h4⟩
theorem TC.below2 {w : World} {FA : Option Addr} {fn FC : Nat} {VA : Option Addr} {vn VC : Nat} {op : Int} {A : Option Addr} {n c : Nat} {nm : ByteArray} {v : Vl} {W W' : World} (h : TC w FA fn FC VA vn VC op A n c nm v W) (hb : Below (w.heap.size + 2) W W') : TC w FA fn FC VA vn VC op A n c nm v W' := by
  obtain ⟨h0, h1, h2, h3, h4⟩ := h
  refine ⟨h0.trans (hb.mono (by omega)), Nat.le_trans h1 hb.size, keepc hb (by omega) h2, keepc hb (by omega) h3, ?_⟩
  exact ⟨keepc hb (by omega) h4.1, keepc hb (by omega) h4.2.1, keepc hb (by omega) h4.2.2.1, keepc hb (by omega) h4.2.2.2.1, keepc hb (by omega) h4.2.2.2.2.1, keepc hb (by omega) h4.2.2.2.2.2.1, keepc hb (by omega) h4.2.2.2.2.2.2.1, keepc hb (by omega) h4.2.2.2.2.2.2.2⟩
theorem bx_off {W : World} {b g : Nat} {r : Vl} (h : Bx W b r) (hne : b ≠ g) (u0 u1 u2 u3 u4 : Value) : Bx (((((W.setCell ⟨g, 0, none⟩ u0).setCell ⟨g, 1, none⟩ u1).setCell ⟨g, 2, none⟩ u2).setCell ⟨g, 3, none⟩ u3).setCell ⟨g, 4, none⟩ u4) b r := by
  have hk : ∀ (W : World) (o j : Nat) (u : Value), (W.setCell ⟨g, j, none⟩ u).cell? ⟨b, o, none⟩ = W.cell? ⟨b, o, none⟩ := fun W o j u => World.cell?_setCell_other W (a := ⟨g, j, none⟩) (b := ⟨b, o, none⟩) (v := u) (by intro e; injection e with e _ _; exact hne e.symm)
  unfold Bx
  simp only [hk]
  exact h
/-- what is held while a later kid is reckoned -/
abbrev THeldK (w : World) (FA : Option Addr) (fn FC : Nat) (VA : Option Addr) (vn VC : Nat) (op : Int) (ad : Addr) (n c : Nat) (q : Addr) (p0 : Int) (A0 : Option Addr) (n0 c0 : Nat) (m0 : ByteArray) (y0 : Vl) (W : World) : Prop :=
  W.cell? ⟨w.heap.size, 0, none⟩ = some (.slice FA fn FC) ∧ W.cell? ⟨w.heap.size, 1, none⟩ = some (.slice VA vn VC) ∧ W.cell? ⟨w.heap.size + 1, 0, none⟩ = some (.int .i64 op) ∧ W.cell? ⟨w.heap.size + 1, 1, none⟩ = some (.slice (some ad) n c) ∧
  W.cell? q = some (.int .i64 p0) ∧ W.cell? ⟨q.block, q.off + 1, none⟩ = some (.slice A0 n0 c0) ∧ W.cell? ⟨q.block, q.off + 2, none⟩ = some (.string m0) ∧ W.cell? ⟨q.block, q.off + 3, none⟩ = some (.int .i64 y0.k) ∧ W.cell? ⟨q.block, q.off + 4, none⟩ = some (.int .i64 y0.i) ∧ W.cell? ⟨q.block, q.off + 5, none⟩ = some (.bool y0.b) ∧ W.cell? ⟨q.block, q.off + 6, none⟩ = some (.string y0.s) ∧ W.cell? ⟨q.block, q.off + 7, none⟩ = some (.float .f64 y0.n)
/-- what is held while the first kid is reckoned -/
abbrev THeld (w : World) (FA : Option Addr) (fn FC : Nat) (VA : Option Addr) (vn VC : Nat) (ad : Addr) (n c : Nat) (p0 : Int) (A0 : Option Addr) (n0 c0 : Nat) (m0 : ByteArray) (y0 : Vl) (W : World) : Prop :=
  W.cell? ⟨w.heap.size, 0, none⟩ = some (.slice FA fn FC) ∧ W.cell? ⟨w.heap.size, 1, none⟩ = some (.slice VA vn VC) ∧ W.cell? ⟨w.heap.size + 1, 1, none⟩ = some (.slice (some ad) n c) ∧
  W.cell? ad = some (.int .i64 p0) ∧ W.cell? ⟨ad.block, ad.off + 1, none⟩ = some (.slice A0 n0 c0) ∧ W.cell? ⟨ad.block, ad.off + 2, none⟩ = some (.string m0) ∧ W.cell? ⟨ad.block, ad.off + 3, none⟩ = some (.int .i64 y0.k) ∧ W.cell? ⟨ad.block, ad.off + 4, none⟩ = some (.int .i64 y0.i) ∧ W.cell? ⟨ad.block, ad.off + 5, none⟩ = some (.bool y0.b) ∧ W.cell? ⟨ad.block, ad.off + 6, none⟩ = some (.string y0.s) ∧ W.cell? ⟨ad.block, ad.off + 7, none⟩ = some (.float .f64 y0.n)
theorem newcells {wb wA : World} (hb : Below ((wb.alloc (.cells #[.int .i64 0, .int .i64 0, .bool false, .string { data := #[] }, .float .f64 0] 25)).drew).heap.size (wb.alloc (.cells #[.int .i64 0, .int .i64 0, .bool false, .string { data := #[] }, .float .f64 0] 25)).drew wA) :
    wA.cell? ⟨wb.heap.size, 0, none⟩ = some (.int .i64 0) ∧ wA.cell? ⟨wb.heap.size, 1, none⟩ = some (.int .i64 0) ∧ wA.cell? ⟨wb.heap.size, 2, none⟩ = some (.bool false) ∧ wA.cell? ⟨wb.heap.size, 3, none⟩ = some (.string { data := #[] }) ∧ wA.cell? ⟨wb.heap.size, 4, none⟩ = some (.float .f64 0) ∧ (∀ j, wA.frozen? ⟨wb.heap.size, j, none⟩ = false) := by
  have h := heap_alloc_new wb (.cells #[.int .i64 0, .int .i64 0, .bool false, .string { data := #[] }, .float .f64 0] 25)
  have h2 : wA.heap[wb.heap.size]? = some (.cells #[.int .i64 0, .int .i64 0, .bool false, .string { data := #[] }, .float .f64 0] 25 (0, 0)) := (hb.block wb.heap.size (by show wb.heap.size < (wb.alloc _).heap.size; simp)).trans h
  exact ⟨(cell_of_row _ _ 0 _ _ (0, 0) h2).trans rfl, (cell_of_row _ _ 1 _ _ (0, 0) h2).trans rfl, (cell_of_row _ _ 2 _ _ (0, 0) h2).trans rfl, (cell_of_row _ _ 3 _ _ (0, 0) h2).trans rfl, (cell_of_row _ _ 4 _ _ (0, 0) h2).trans rfl, fun j => by unfold World.frozen?; simp only [h2]; simp⟩
theorem bx_set {W : World} {b : Nat} {u0 u1 u2 u3 u4 : Value} {r : Vl} (h0 : W.cell? ⟨b, 0, none⟩ = some u0) (h1 : W.cell? ⟨b, 1, none⟩ = some u1) (h2 : W.cell? ⟨b, 2, none⟩ = some u2) (h3 : W.cell? ⟨b, 3, none⟩ = some u3) (h4 : W.cell? ⟨b, 4, none⟩ = some u4) :
    Bx (((((W.setCell ⟨b, 0, none⟩ (.int .i64 r.k)).setCell ⟨b, 1, none⟩ (.int .i64 r.i)).setCell ⟨b, 2, none⟩ (.bool r.b)).setCell ⟨b, 3, none⟩ (.string r.s)).setCell ⟨b, 4, none⟩ (.float .f64 r.n)) b r := by
  refine ⟨?_, ?_, ?_, ?_, ?_⟩ <;> simp [go_sem, h0, h1, h2, h3, h4]
set_option maxHeartbeats 600000 in
theorem tell_3 (FA : Option Addr) (fn FC : Nat) (VA : Option Addr) (vn VC : Nat) (ad : Addr) (n c : Nat) (nm : ByteArray) (v : Vl) (w : World) (A0 : Option Addr) (n0 c0 : Nat) (m0 : ByteArray) (y0 : Vl) (p0 : Int) (R0 : Vl × Int) (hq0 : ∀ W, Below w.heap.size w W → Kid W ad p0 A0 n0 c0 m0 y0) (h0 : ∀ W, Below w.heap.size w W → Calls Tryz.prog 148 #[agR FA fn FC VA vn VC, agX p0 A0 n0 c0 m0 y0] W (TellP R0 W)) (hv0 : R0.2 = 0 → okV R0.1) (hn : 0 < n) (hf : R0.2 = 0 → ∀ W, Calls Tryz.prog 187 #[agV R0.1] W (VMk (pairVE (negV R0.1).1 (negV R0.1).2) W)) :
    Calls Tryz.prog 148 #[agR FA fn FC VA vn VC, agX 3 (some ad) n c nm v] w (TellP (if R0.2 ≠ 0 then (vZero, R0.2) else negV R0.1) w) := by
  have hsf := fun (w : World) (a : Addr) (m : Mode) (b : Nat) => run_store Tryz.prog w a (.float .f64 b) m rfl
  have hi : (0 : Int) < (n : Int) := by omega
  have hn0 : 0 < n := by omega
  obtain ⟨r1, r2⟩ := R0
  have H0 := Lib.hid h0
  clear h0
  by_cases hz : r2 = 0
  · subst hz
    rw [if_neg (fun h => h rfl)]
    have h0 := fun W hb => (H0.out W hb).mono (fun e w' h => (⟨h.1.trans (if_pos rfl), h.2⟩ : e = .returned (agV r1) ∧ Below W.heap.size W w'))
    clear H0
    have H0 := Lib.hid h0
    have hf := hf rfl
    generalize hq : negV r1 = q
    have hq2 : negV (r1, (0 : Int)).1 = q := hq
    rw [hq2] at hf
    have HF := Lib.hid hf
    clear hf hq hq2 h0 hv0
    have htb : TB w FA fn FC VA vn VC 3 (some ad) n c nm v (((w.alloc (.cells #[.slice FA fn FC, .slice VA vn VC] 126)).alloc (.cells #[.int .i64 3, .slice (some ad) n c, .string nm, .int .i64 v.k, .int .i64 v.i, .bool v.b, .string v.s, .float .f64 v.n] 27)).alloc (.cells #[.int .i64 0, .int .i64 0, .bool false, .string { data := #[] }, .float .f64 0] 25)) := TB_new w FA fn FC VA vn VC 3 (some ad) n c nm v
    have HHELD := Lib.hid (fun W (hb : TB w FA fn FC VA vn VC 3 (some ad) n c nm v W) => (show THeld w FA fn FC VA vn VC ad n c p0 A0 n0 c0 m0 y0 W from let q := hq0 W hb.1; ⟨hb.2.2.1, hb.2.2.2.1, hb.2.2.2.2.1.2.1, q.1, q.2.1, q.2.2.1, q.2.2.2.1, q.2.2.2.2.1, q.2.2.2.2.2.1, q.2.2.2.2.2.2.1, q.2.2.2.2.2.2.2⟩))
    clear hq0
    have HKP := Lib.hid (fun (W W' : World) (h : TB w FA fn FC VA vn VC 3 (some ad) n c nm v W ∧ THeld w FA fn FC VA vn VC ad n c p0 A0 n0 c0 m0 y0 W) (hb : Below W.heap.size W W') => And.intro (h.1.below hb) (HHELD.out _ (h.1.below hb)))
    have HKS := Lib.hid (fun (W : World) (b : Nat) (u0 u1 u2 u3 u4 : Value) (hge : w.heap.size + 3 ≤ b) (h : TB w FA fn FC VA vn VC 3 (some ad) n c nm v W ∧ THeld w FA fn FC VA vn VC ad n c p0 A0 n0 c0 m0 y0 W) => let hb := below_set5 (Below.refl (w.heap.size + 3) W) hge u0 u1 u2 u3 u4; And.intro (h.1.below3 hb) (HHELD.out _ (h.1.below3 hb)))
    go_enter Tryz.func148, Tryz.ntmps148
    go_upto_region 6 with fail
    generalize ((w.alloc (.cells #[.slice FA fn FC, .slice VA vn VC] 126)).alloc (.cells #[.int .i64 3, .slice (some ad) n c, .string nm, .int .i64 v.k, .int .i64 v.i, .bool v.b, .string v.s, .float .f64 v.n] 27)).alloc (.cells #[.int .i64 0, .int .i64 0, .bool false, .string { data := #[] }, .float .f64 0] 25) = wb at *
    go_cut [5] from 23 to 28 (fun s5 wx => ∃ b, s5 = .pointer (some ⟨b, 0, none⟩) ∧ w.heap.size + 3 ≤ b ∧ TB w FA fn FC VA vn VC 3 (some ad) n c nm v wx ∧ Bx wx b r1)
    case first =>
      have hS0 : TB w FA fn FC VA vn VC 3 (some ad) n c nm v wb.drew ∧ THeld w FA fn FC VA vn VC ad n c p0 A0 n0 c0 m0 y0 wb.drew := ⟨htb.below (Below.refl _ _).drew, HHELD.out _ (htb.below (Below.refl _ _).drew)⟩
      refine wp_region_held_drew (S := (fun W => TB w FA fn FC VA vn VC 3 (some ad) n c nm v W ∧ THeld w FA fn FC VA vn VC ad n c p0 A0 n0 c0 m0 y0 W)) (by kernel_rfl) (hS0) (fun hHeld => ?_)
      refine wpAnyH_take (i := 0) (oi := ?oi1) (v := ?v1) ?hi1 (by kernel_rfl) (by kernel_rfl) (by kernel_rfl) ?hQ1 (Or.inl ⟨?hw1, ?hy1⟩) (by assumption) ?rest1
      case hi1 => (simp only [gA, gB, gC]; rfl)
      case hQ1 => exact fun _ _ _ h => h
      case hw1 => rfl
      case hy1 => (intro w hSw; (try dsimp only at hSw); go_simp; try with_reducible rfl)
      (try simp only [Act.put, sA, sB, sC])
      refine wpAnyH_take (i := 1) (oi := ?oi2) (v := ?v2) ?hi2 (by kernel_rfl) (by kernel_rfl) (by kernel_rfl) ?hQ2 (Or.inl ⟨?hw2, ?hy2⟩) (by assumption) ?rest2
      case hi2 => (simp only [gA, gB, gC]; rfl)
      case hQ2 => exact fun _ _ _ h => h
      case hw2 => rfl
      case hy2 => (intro w hSw; (try dsimp only at hSw); go_simp; try with_reducible rfl)
      (try simp only [Act.put, sA, sB, sC])
      refine wpAnyH_take (i := 2) (oi := ?oi3) (v := ?v3) ?hi3 (by kernel_rfl) (by kernel_rfl) (by kernel_rfl) ?hQ3 (Or.inl ⟨?hw3, ?hy3⟩) (by assumption) ?rest3
      case hi3 => (simp only [gA, gB, gC]; rfl)
      case hQ3 => exact fun _ _ _ h => h
      case hw3 => rfl
      case hy3 => (intro w hSw; (try dsimp only at hSw); go_simp; try with_reducible rfl)
      (try simp only [Act.put, sA, sB, sC])
      refine wpAnyH_take (i := 3) (oi := ?oi4) (v := ?v4) ?hi4 (by kernel_rfl) (by kernel_rfl) (by kernel_rfl) ?hQ4 (Or.inl ⟨?hw4, ?hy4⟩) (by assumption) ?rest4
      case hi4 => (simp only [gA, gB, gC]; rfl)
      case hQ4 => exact fun _ _ _ h => h
      case hw4 => rfl
      case hy4 => (intro w hSw; (try dsimp only at hSw); go_simp; try with_reducible rfl)
      (try simp only [Act.put, sA, sB, sC])
      refine wpAnyH_take (i := 4) (oi := ?oi5) (v := ?v5) ?hi5 (by kernel_rfl) (by kernel_rfl) (by kernel_rfl) ?hQ5 (Or.inl ⟨?hw5, ?hy5⟩) (by assumption) ?rest5
      case hi5 => (simp only [gA, gB, gC]; rfl)
      case hQ5 => exact fun _ _ _ h => h
      case hw5 => rfl
      case hy5 => (intro w hSw; (try dsimp only at hSw); go_simp; try with_reducible rfl)
      (try simp only [Act.put, sA, sB, sC])
      refine wpAnyH_ready (rs := [5, 6]) (by kernel_rfl) (by simp) ?_
      refine AllReadyH.cons (o := ?o6) ?ho6 (fun K hK => ?st6) (AllReadyH.cons (o := ?o7) ?ho7 (fun K hK => ?st7) AllReadyH.nil)
      case ho6 => (simp only [gA, gB, gC]; rfl)
      case ho7 => (simp only [gA, gB, gC]; rfl)
      · go_simp
        refine (H0.out _ (And.left (And.left hHeld))).mono ?_; rintro e wA ⟨rfl, hbA⟩; have hSA := HKP.out _ _ hHeld hbA
        refine hK.out _ _ ?_ (fun hHeld => ?_)
        · (try dsimp only); exact hSA
        clear hK K
        (try simp only [Act.put, sA, sB, sC])
        refine wpAnyH_ready (rs := [6]) (by kernel_rfl) (by simp) ?_
        refine AllReadyH.cons (o := ?o8) ?ho8 (fun K hK => ?st8) AllReadyH.nil
        case ho8 => (simp only [gA, gB, gC]; rfl)
        go_simp
        refine hK.out _ _ ?_ (fun hHeld => ?_)
        · (try dsimp only); exact HKP.out _ _ hSA (alloc1 _ _)
        clear hK K
        (try simp only [Act.put, sA, sB, sC])
        refine wpAnyH_ready (rs := [7]) (by kernel_rfl) (by simp) ?_
        refine AllReadyH.cons (o := ?o9) ?ho9 (fun K hK => ?st9) AllReadyH.nil
        case ho9 => (simp only [gA, gB, gC]; rfl)
        go_simp
        refine hK.out _ _ ?_ (fun hHeld => ?_)
        · (try dsimp only); exact HKP.out _ _ hSA (alloc1 _ _)
        clear hK K
        (try simp only [Act.put, sA, sB, sC])
        refine wpAnyH_done (by kernel_rfl) ?_ _
        go_wp2_with fail
        go_meet
        exact ⟨_, rfl, hSA.1.2.1, hHeld.1, Bx.new _ r1⟩
      · go_simp
        refine hK.out _ _ ?_ (fun hHeld => ?_)
        · (try dsimp only); exact HKP.out _ _ hS0 (alloc1 _ _)
        clear hK K
        (try simp only [Act.put, sA, sB, sC])
        refine wpAnyH_ready (rs := [5]) (by kernel_rfl) (by simp) ?_
        refine AllReadyH.cons (o := ?o10) ?ho10 (fun K hK => ?st10) AllReadyH.nil
        case ho10 => (simp only [gA, gB, gC]; rfl)
        go_simp
        refine (H0.out _ (And.left (And.left hHeld))).mono ?_; rintro e wA ⟨rfl, hbA⟩; have hSA := HKP.out _ _ hHeld hbA; obtain ⟨e0, e1, e2, e3, e4, ef⟩ := newcells hbA
        refine hK.out _ _ ?_ (fun hHeld => ?_)
        · (try dsimp only); exact hSA
        clear hK K
        (try simp only [Act.put, sA, sB, sC])
        refine wpAnyH_ready (rs := [7]) (by kernel_rfl) (by simp) ?_
        refine AllReadyH.cons (o := ?o11) ?ho11 (fun K hK => ?st11) AllReadyH.nil
        case ho11 => (simp only [gA, gB, gC]; rfl)
        go_simp
        refine hK.out _ _ ?_ (fun hHeld => ?_)
        · (try dsimp only); exact HKS.out _ _ _ _ _ _ _ htb.2.1 hSA
        clear hK K
        (try simp only [Act.put, sA, sB, sC])
        refine wpAnyH_done (by kernel_rfl) ?_ _
        go_wp2_with fail
        go_meet
        exact ⟨_, rfl, htb.2.1, hHeld.1, bx_set e0 e1 e2 e3 e4⟩
    case rest =>
      clear htb HHELD HKP HKS
      obtain ⟨b, rfl, hbge, hTB, hx0, hx1, hx2, hx3, hx4⟩ := hcut
      obtain ⟨d0, d1, d2, d3, d4, d5, d6, d7⟩ := hTB.2.2.2.2.1
      have g0 := hTB.2.2.1
      have g1 := hTB.2.2.2.1
      obtain ⟨q1, q2⟩ := q
      by_cases hf : q2 = 0
      · subst hf
        go_wp2_with (first
          | (go_at_call 187; refine (HF.out _).mono ?_; rintro e w2 ⟨rfl, hb2⟩; have hT2 := hTB.below hb2)
          | (go_at_call 185; refine (sure_ok _ _).mono ?_; rintro e w3 ⟨rfl, hb3⟩; have hT3 := hT2.below hb3; obtain ⟨ou0, ou1, ou2, ou3, ou4, ov0, ov1, ov2, ov3, ov4, ovf⟩ := TB.out hT3))
        exact bodyPost_ret (v := agV q1) (by simp [results, Tryz.results148, go_sem, ov0, ov1, ov2, ov3, ov4]) rfl ⟨rfl, TB.done hT3 _ _ _ _ _⟩
      · have HB := Lib.hid (sure_bad q1 q2 hf)
        have HNE := Lib.hid hf
        clear hf
        go_wp2_with (first
          | (go_at_call 187; refine (HF.out _).mono ?_; rintro e w2 ⟨rfl, hb2⟩; have hT2 := hTB.below hb2)
          | (go_at_call 185; refine (HB.out _).mono ?_; rintro e w3 ⟨rfl, hb3⟩))
        exact ⟨rfl, (if_neg HNE.out).symm, (hT2.1.trans (hb3.mono hT2.1.size))⟩
  · have h0 := fun W hb => (H0.out W hb).mono (fun e w' h => (⟨h.1.trans (if_neg hz), h.2⟩ : e = .panicked (PV r2) ∧ Below W.heap.size W w'))
    clear H0
    have H0 := Lib.hid h0
    have HZ := Lib.hid hz
    rw [if_pos hz]
    clear h0 hv0 hz
    have htb : TB w FA fn FC VA vn VC 3 (some ad) n c nm v (((w.alloc (.cells #[.slice FA fn FC, .slice VA vn VC] 126)).alloc (.cells #[.int .i64 3, .slice (some ad) n c, .string nm, .int .i64 v.k, .int .i64 v.i, .bool v.b, .string v.s, .float .f64 v.n] 27)).alloc (.cells #[.int .i64 0, .int .i64 0, .bool false, .string { data := #[] }, .float .f64 0] 25)) := TB_new w FA fn FC VA vn VC 3 (some ad) n c nm v
    have HHELD := Lib.hid (fun W (hb : TB w FA fn FC VA vn VC 3 (some ad) n c nm v W) => (show THeld w FA fn FC VA vn VC ad n c p0 A0 n0 c0 m0 y0 W from let q := hq0 W hb.1; ⟨hb.2.2.1, hb.2.2.2.1, hb.2.2.2.2.1.2.1, q.1, q.2.1, q.2.2.1, q.2.2.2.1, q.2.2.2.2.1, q.2.2.2.2.2.1, q.2.2.2.2.2.2.1, q.2.2.2.2.2.2.2⟩))
    clear hq0
    have HKP := Lib.hid (fun (W W' : World) (h : TB w FA fn FC VA vn VC 3 (some ad) n c nm v W ∧ THeld w FA fn FC VA vn VC ad n c p0 A0 n0 c0 m0 y0 W) (hb : Below W.heap.size W W') => And.intro (h.1.below hb) (HHELD.out _ (h.1.below hb)))
    have HKS := Lib.hid (fun (W : World) (b : Nat) (u0 u1 u2 u3 u4 : Value) (hge : w.heap.size + 3 ≤ b) (h : TB w FA fn FC VA vn VC 3 (some ad) n c nm v W ∧ THeld w FA fn FC VA vn VC ad n c p0 A0 n0 c0 m0 y0 W) => let hb := below_set5 (Below.refl (w.heap.size + 3) W) hge u0 u1 u2 u3 u4; And.intro (h.1.below3 hb) (HHELD.out _ (h.1.below3 hb)))
    go_enter Tryz.func148, Tryz.ntmps148
    go_upto_region 6 with fail
    generalize ((w.alloc (.cells #[.slice FA fn FC, .slice VA vn VC] 126)).alloc (.cells #[.int .i64 3, .slice (some ad) n c, .string nm, .int .i64 v.k, .int .i64 v.i, .bool v.b, .string v.s, .float .f64 v.n] 27)).alloc (.cells #[.int .i64 0, .int .i64 0, .bool false, .string { data := #[] }, .float .f64 0] 25) = wb at *
    have hS0 : TB w FA fn FC VA vn VC 3 (some ad) n c nm v wb.drew ∧ THeld w FA fn FC VA vn VC ad n c p0 A0 n0 c0 m0 y0 wb.drew := ⟨htb.below (Below.refl _ _).drew, HHELD.out _ (htb.below (Below.refl _ _).drew)⟩
    refine wp_region_held_drew (S := (fun W => TB w FA fn FC VA vn VC 3 (some ad) n c nm v W ∧ THeld w FA fn FC VA vn VC ad n c p0 A0 n0 c0 m0 y0 W)) (by kernel_rfl) (hS0) (fun hHeld => ?_)
    refine wpAnyH_take (i := 0) (oi := ?oi12) (v := ?v12) ?hi12 (by kernel_rfl) (by kernel_rfl) (by kernel_rfl) ?hQ12 (Or.inl ⟨?hw12, ?hy12⟩) (by assumption) ?rest12
    case hi12 => (simp only [gA, gB, gC]; rfl)
    case hQ12 => exact fun _ _ _ h => h
    case hw12 => rfl
    case hy12 => (intro w hSw; (try dsimp only at hSw); go_simp; try with_reducible rfl)
    (try simp only [Act.put, sA, sB, sC])
    refine wpAnyH_take (i := 1) (oi := ?oi13) (v := ?v13) ?hi13 (by kernel_rfl) (by kernel_rfl) (by kernel_rfl) ?hQ13 (Or.inl ⟨?hw13, ?hy13⟩) (by assumption) ?rest13
    case hi13 => (simp only [gA, gB, gC]; rfl)
    case hQ13 => exact fun _ _ _ h => h
    case hw13 => rfl
    case hy13 => (intro w hSw; (try dsimp only at hSw); go_simp; try with_reducible rfl)
    (try simp only [Act.put, sA, sB, sC])
    refine wpAnyH_take (i := 2) (oi := ?oi14) (v := ?v14) ?hi14 (by kernel_rfl) (by kernel_rfl) (by kernel_rfl) ?hQ14 (Or.inl ⟨?hw14, ?hy14⟩) (by assumption) ?rest14
    case hi14 => (simp only [gA, gB, gC]; rfl)
    case hQ14 => exact fun _ _ _ h => h
    case hw14 => rfl
    case hy14 => (intro w hSw; (try dsimp only at hSw); go_simp; try with_reducible rfl)
    (try simp only [Act.put, sA, sB, sC])
    refine wpAnyH_take (i := 3) (oi := ?oi15) (v := ?v15) ?hi15 (by kernel_rfl) (by kernel_rfl) (by kernel_rfl) ?hQ15 (Or.inl ⟨?hw15, ?hy15⟩) (by assumption) ?rest15
    case hi15 => (simp only [gA, gB, gC]; rfl)
    case hQ15 => exact fun _ _ _ h => h
    case hw15 => rfl
    case hy15 => (intro w hSw; (try dsimp only at hSw); go_simp; try with_reducible rfl)
    (try simp only [Act.put, sA, sB, sC])
    refine wpAnyH_take (i := 4) (oi := ?oi16) (v := ?v16) ?hi16 (by kernel_rfl) (by kernel_rfl) (by kernel_rfl) ?hQ16 (Or.inl ⟨?hw16, ?hy16⟩) (by assumption) ?rest16
    case hi16 => (simp only [gA, gB, gC]; rfl)
    case hQ16 => exact fun _ _ _ h => h
    case hw16 => rfl
    case hy16 => (intro w hSw; (try dsimp only at hSw); go_simp; try with_reducible rfl)
    (try simp only [Act.put, sA, sB, sC])
    refine wpAnyH_ready (rs := [5, 6]) (by kernel_rfl) (by simp) ?_
    refine AllReadyH.cons (o := ?o17) ?ho17 (fun K hK => ?st17) (AllReadyH.cons (o := ?o18) ?ho18 (fun K hK => ?st18) AllReadyH.nil)
    case ho17 => (simp only [gA, gB, gC]; rfl)
    case ho18 => (simp only [gA, gB, gC]; rfl)
    · go_simp
      refine (H0.out _ (And.left (And.left hHeld))).mono ?_; rintro e wA ⟨rfl, hbA⟩
      exact ⟨rfl, (if_neg HZ.out).symm, (And.left (And.left hHeld)).trans (hbA.mono (And.left (And.left hHeld)).size)⟩
    · go_simp
      refine hK.out _ _ ?_ (fun hHeld => ?_)
      · (try dsimp only); exact HKP.out _ _ hS0 (alloc1 _ _)
      clear hK K
      (try simp only [Act.put, sA, sB, sC])
      refine wpAnyH_ready (rs := [5]) (by kernel_rfl) (by simp) ?_
      refine AllReadyH.cons (o := ?o19) ?ho19 (fun K hK => ?st19) AllReadyH.nil
      case ho19 => (simp only [gA, gB, gC]; rfl)
      go_simp
      refine (H0.out _ (And.left (And.left hHeld))).mono ?_; rintro e wA ⟨rfl, hbA⟩
      exact ⟨rfl, (if_neg HZ.out).symm, (And.left (And.left hHeld)).trans (hbA.mono (And.left (And.left hHeld)).size)⟩
set_option maxHeartbeats 600000 in
theorem tell_16 (FA : Option Addr) (fn FC : Nat) (VA : Option Addr) (vn VC : Nat) (ad : Addr) (n c : Nat) (nm : ByteArray) (v : Vl) (w : World) (A0 : Option Addr) (n0 c0 : Nat) (m0 : ByteArray) (y0 : Vl) (p0 : Int) (R0 : Vl × Int) (hq0 : ∀ W, Below w.heap.size w W → Kid W ad p0 A0 n0 c0 m0 y0) (h0 : ∀ W, Below w.heap.size w W → Calls Tryz.prog 148 #[agR FA fn FC VA vn VC, agX p0 A0 n0 c0 m0 y0] W (TellP R0 W)) (hv0 : R0.2 = 0 → okV R0.1) (hn : 0 < n) (hf : R0.2 = 0 → ∀ W, Calls Tryz.prog 188 #[agV R0.1] W (VMk (pairVE (floatV R0.1).1 (floatV R0.1).2) W)) :
    Calls Tryz.prog 148 #[agR FA fn FC VA vn VC, agX 16 (some ad) n c nm v] w (TellP (if R0.2 ≠ 0 then (vZero, R0.2) else floatV R0.1) w) := by
  have hsf := fun (w : World) (a : Addr) (m : Mode) (b : Nat) => run_store Tryz.prog w a (.float .f64 b) m rfl
  have hi : (0 : Int) < (n : Int) := by omega
  have hn0 : 0 < n := by omega
  obtain ⟨r1, r2⟩ := R0
  have H0 := Lib.hid h0
  clear h0
  by_cases hz : r2 = 0
  · subst hz
    rw [if_neg (fun h => h rfl)]
    have h0 := fun W hb => (H0.out W hb).mono (fun e w' h => (⟨h.1.trans (if_pos rfl), h.2⟩ : e = .returned (agV r1) ∧ Below W.heap.size W w'))
    clear H0
    have H0 := Lib.hid h0
    have hf := hf rfl
    generalize hq : floatV r1 = q
    have hq2 : floatV (r1, (0 : Int)).1 = q := hq
    rw [hq2] at hf
    have HF := Lib.hid hf
    clear hf hq hq2 h0 hv0
    have htb : TB w FA fn FC VA vn VC 16 (some ad) n c nm v (((w.alloc (.cells #[.slice FA fn FC, .slice VA vn VC] 126)).alloc (.cells #[.int .i64 16, .slice (some ad) n c, .string nm, .int .i64 v.k, .int .i64 v.i, .bool v.b, .string v.s, .float .f64 v.n] 27)).alloc (.cells #[.int .i64 0, .int .i64 0, .bool false, .string { data := #[] }, .float .f64 0] 25)) := TB_new w FA fn FC VA vn VC 16 (some ad) n c nm v
    have HHELD := Lib.hid (fun W (hb : TB w FA fn FC VA vn VC 16 (some ad) n c nm v W) => (show THeld w FA fn FC VA vn VC ad n c p0 A0 n0 c0 m0 y0 W from let q := hq0 W hb.1; ⟨hb.2.2.1, hb.2.2.2.1, hb.2.2.2.2.1.2.1, q.1, q.2.1, q.2.2.1, q.2.2.2.1, q.2.2.2.2.1, q.2.2.2.2.2.1, q.2.2.2.2.2.2.1, q.2.2.2.2.2.2.2⟩))
    clear hq0
    have HKP := Lib.hid (fun (W W' : World) (h : TB w FA fn FC VA vn VC 16 (some ad) n c nm v W ∧ THeld w FA fn FC VA vn VC ad n c p0 A0 n0 c0 m0 y0 W) (hb : Below W.heap.size W W') => And.intro (h.1.below hb) (HHELD.out _ (h.1.below hb)))
    have HKS := Lib.hid (fun (W : World) (b : Nat) (u0 u1 u2 u3 u4 : Value) (hge : w.heap.size + 3 ≤ b) (h : TB w FA fn FC VA vn VC 16 (some ad) n c nm v W ∧ THeld w FA fn FC VA vn VC ad n c p0 A0 n0 c0 m0 y0 W) => let hb := below_set5 (Below.refl (w.heap.size + 3) W) hge u0 u1 u2 u3 u4; And.intro (h.1.below3 hb) (HHELD.out _ (h.1.below3 hb)))
    go_enter Tryz.func148, Tryz.ntmps148
    go_upto_region 6 with fail
    generalize ((w.alloc (.cells #[.slice FA fn FC, .slice VA vn VC] 126)).alloc (.cells #[.int .i64 16, .slice (some ad) n c, .string nm, .int .i64 v.k, .int .i64 v.i, .bool v.b, .string v.s, .float .f64 v.n] 27)).alloc (.cells #[.int .i64 0, .int .i64 0, .bool false, .string { data := #[] }, .float .f64 0] 25) = wb at *
    go_cut [5] from 23 to 28 (fun s5 wx => ∃ b, s5 = .pointer (some ⟨b, 0, none⟩) ∧ w.heap.size + 3 ≤ b ∧ TB w FA fn FC VA vn VC 16 (some ad) n c nm v wx ∧ Bx wx b r1)
    case first =>
      have hS0 : TB w FA fn FC VA vn VC 16 (some ad) n c nm v wb.drew ∧ THeld w FA fn FC VA vn VC ad n c p0 A0 n0 c0 m0 y0 wb.drew := ⟨htb.below (Below.refl _ _).drew, HHELD.out _ (htb.below (Below.refl _ _).drew)⟩
      refine wp_region_held_drew (S := (fun W => TB w FA fn FC VA vn VC 16 (some ad) n c nm v W ∧ THeld w FA fn FC VA vn VC ad n c p0 A0 n0 c0 m0 y0 W)) (by kernel_rfl) (hS0) (fun hHeld => ?_)
      refine wpAnyH_take (i := 0) (oi := ?oi20) (v := ?v20) ?hi20 (by kernel_rfl) (by kernel_rfl) (by kernel_rfl) ?hQ20 (Or.inl ⟨?hw20, ?hy20⟩) (by assumption) ?rest20
      case hi20 => (simp only [gA, gB, gC]; rfl)
      case hQ20 => exact fun _ _ _ h => h
      case hw20 => rfl
      case hy20 => (intro w hSw; (try dsimp only at hSw); go_simp; try with_reducible rfl)
      (try simp only [Act.put, sA, sB, sC])
      refine wpAnyH_take (i := 1) (oi := ?oi21) (v := ?v21) ?hi21 (by kernel_rfl) (by kernel_rfl) (by kernel_rfl) ?hQ21 (Or.inl ⟨?hw21, ?hy21⟩) (by assumption) ?rest21
      case hi21 => (simp only [gA, gB, gC]; rfl)
      case hQ21 => exact fun _ _ _ h => h
      case hw21 => rfl
      case hy21 => (intro w hSw; (try dsimp only at hSw); go_simp; try with_reducible rfl)
      (try simp only [Act.put, sA, sB, sC])
      refine wpAnyH_take (i := 2) (oi := ?oi22) (v := ?v22) ?hi22 (by kernel_rfl) (by kernel_rfl) (by kernel_rfl) ?hQ22 (Or.inl ⟨?hw22, ?hy22⟩) (by assumption) ?rest22
      case hi22 => (simp only [gA, gB, gC]; rfl)
      case hQ22 => exact fun _ _ _ h => h
      case hw22 => rfl
      case hy22 => (intro w hSw; (try dsimp only at hSw); go_simp; try with_reducible rfl)
      (try simp only [Act.put, sA, sB, sC])
      refine wpAnyH_take (i := 3) (oi := ?oi23) (v := ?v23) ?hi23 (by kernel_rfl) (by kernel_rfl) (by kernel_rfl) ?hQ23 (Or.inl ⟨?hw23, ?hy23⟩) (by assumption) ?rest23
      case hi23 => (simp only [gA, gB, gC]; rfl)
      case hQ23 => exact fun _ _ _ h => h
      case hw23 => rfl
      case hy23 => (intro w hSw; (try dsimp only at hSw); go_simp; try with_reducible rfl)
      (try simp only [Act.put, sA, sB, sC])
      refine wpAnyH_take (i := 4) (oi := ?oi24) (v := ?v24) ?hi24 (by kernel_rfl) (by kernel_rfl) (by kernel_rfl) ?hQ24 (Or.inl ⟨?hw24, ?hy24⟩) (by assumption) ?rest24
      case hi24 => (simp only [gA, gB, gC]; rfl)
      case hQ24 => exact fun _ _ _ h => h
      case hw24 => rfl
      case hy24 => (intro w hSw; (try dsimp only at hSw); go_simp; try with_reducible rfl)
      (try simp only [Act.put, sA, sB, sC])
      refine wpAnyH_ready (rs := [5, 6]) (by kernel_rfl) (by simp) ?_
      refine AllReadyH.cons (o := ?o25) ?ho25 (fun K hK => ?st25) (AllReadyH.cons (o := ?o26) ?ho26 (fun K hK => ?st26) AllReadyH.nil)
      case ho25 => (simp only [gA, gB, gC]; rfl)
      case ho26 => (simp only [gA, gB, gC]; rfl)
      · go_simp
        refine (H0.out _ (And.left (And.left hHeld))).mono ?_; rintro e wA ⟨rfl, hbA⟩; have hSA := HKP.out _ _ hHeld hbA
        refine hK.out _ _ ?_ (fun hHeld => ?_)
        · (try dsimp only); exact hSA
        clear hK K
        (try simp only [Act.put, sA, sB, sC])
        refine wpAnyH_ready (rs := [6]) (by kernel_rfl) (by simp) ?_
        refine AllReadyH.cons (o := ?o27) ?ho27 (fun K hK => ?st27) AllReadyH.nil
        case ho27 => (simp only [gA, gB, gC]; rfl)
        go_simp
        refine hK.out _ _ ?_ (fun hHeld => ?_)
        · (try dsimp only); exact HKP.out _ _ hSA (alloc1 _ _)
        clear hK K
        (try simp only [Act.put, sA, sB, sC])
        refine wpAnyH_ready (rs := [7]) (by kernel_rfl) (by simp) ?_
        refine AllReadyH.cons (o := ?o28) ?ho28 (fun K hK => ?st28) AllReadyH.nil
        case ho28 => (simp only [gA, gB, gC]; rfl)
        go_simp
        refine hK.out _ _ ?_ (fun hHeld => ?_)
        · (try dsimp only); exact HKP.out _ _ hSA (alloc1 _ _)
        clear hK K
        (try simp only [Act.put, sA, sB, sC])
        refine wpAnyH_done (by kernel_rfl) ?_ _
        go_wp2_with fail
        go_meet
        exact ⟨_, rfl, hSA.1.2.1, hHeld.1, Bx.new _ r1⟩
      · go_simp
        refine hK.out _ _ ?_ (fun hHeld => ?_)
        · (try dsimp only); exact HKP.out _ _ hS0 (alloc1 _ _)
        clear hK K
        (try simp only [Act.put, sA, sB, sC])
        refine wpAnyH_ready (rs := [5]) (by kernel_rfl) (by simp) ?_
        refine AllReadyH.cons (o := ?o29) ?ho29 (fun K hK => ?st29) AllReadyH.nil
        case ho29 => (simp only [gA, gB, gC]; rfl)
        go_simp
        refine (H0.out _ (And.left (And.left hHeld))).mono ?_; rintro e wA ⟨rfl, hbA⟩; have hSA := HKP.out _ _ hHeld hbA; obtain ⟨e0, e1, e2, e3, e4, ef⟩ := newcells hbA
        refine hK.out _ _ ?_ (fun hHeld => ?_)
        · (try dsimp only); exact hSA
        clear hK K
        (try simp only [Act.put, sA, sB, sC])
        refine wpAnyH_ready (rs := [7]) (by kernel_rfl) (by simp) ?_
        refine AllReadyH.cons (o := ?o30) ?ho30 (fun K hK => ?st30) AllReadyH.nil
        case ho30 => (simp only [gA, gB, gC]; rfl)
        go_simp
        refine hK.out _ _ ?_ (fun hHeld => ?_)
        · (try dsimp only); exact HKS.out _ _ _ _ _ _ _ htb.2.1 hSA
        clear hK K
        (try simp only [Act.put, sA, sB, sC])
        refine wpAnyH_done (by kernel_rfl) ?_ _
        go_wp2_with fail
        go_meet
        exact ⟨_, rfl, htb.2.1, hHeld.1, bx_set e0 e1 e2 e3 e4⟩
    case rest =>
      clear htb HHELD HKP HKS
      obtain ⟨b, rfl, hbge, hTB, hx0, hx1, hx2, hx3, hx4⟩ := hcut
      obtain ⟨d0, d1, d2, d3, d4, d5, d6, d7⟩ := hTB.2.2.2.2.1
      have g0 := hTB.2.2.1
      have g1 := hTB.2.2.2.1
      obtain ⟨q1, q2⟩ := q
      by_cases hf : q2 = 0
      · subst hf
        go_wp2_with (first
          | (go_at_call 188; refine (HF.out _).mono ?_; rintro e w2 ⟨rfl, hb2⟩; have hT2 := hTB.below hb2)
          | (go_at_call 185; refine (sure_ok _ _).mono ?_; rintro e w3 ⟨rfl, hb3⟩; have hT3 := hT2.below hb3; obtain ⟨ou0, ou1, ou2, ou3, ou4, ov0, ov1, ov2, ov3, ov4, ovf⟩ := TB.out hT3))
        exact bodyPost_ret (v := agV q1) (by simp [results, Tryz.results148, go_sem, ov0, ov1, ov2, ov3, ov4]) rfl ⟨rfl, TB.done hT3 _ _ _ _ _⟩
      · have HB := Lib.hid (sure_bad q1 q2 hf)
        have HNE := Lib.hid hf
        clear hf
        go_wp2_with (first
          | (go_at_call 188; refine (HF.out _).mono ?_; rintro e w2 ⟨rfl, hb2⟩; have hT2 := hTB.below hb2)
          | (go_at_call 185; refine (HB.out _).mono ?_; rintro e w3 ⟨rfl, hb3⟩))
        exact ⟨rfl, (if_neg HNE.out).symm, (hT2.1.trans (hb3.mono hT2.1.size))⟩
  · have h0 := fun W hb => (H0.out W hb).mono (fun e w' h => (⟨h.1.trans (if_neg hz), h.2⟩ : e = .panicked (PV r2) ∧ Below W.heap.size W w'))
    clear H0
    have H0 := Lib.hid h0
    have HZ := Lib.hid hz
    rw [if_pos hz]
    clear h0 hv0 hz
    have htb : TB w FA fn FC VA vn VC 16 (some ad) n c nm v (((w.alloc (.cells #[.slice FA fn FC, .slice VA vn VC] 126)).alloc (.cells #[.int .i64 16, .slice (some ad) n c, .string nm, .int .i64 v.k, .int .i64 v.i, .bool v.b, .string v.s, .float .f64 v.n] 27)).alloc (.cells #[.int .i64 0, .int .i64 0, .bool false, .string { data := #[] }, .float .f64 0] 25)) := TB_new w FA fn FC VA vn VC 16 (some ad) n c nm v
    have HHELD := Lib.hid (fun W (hb : TB w FA fn FC VA vn VC 16 (some ad) n c nm v W) => (show THeld w FA fn FC VA vn VC ad n c p0 A0 n0 c0 m0 y0 W from let q := hq0 W hb.1; ⟨hb.2.2.1, hb.2.2.2.1, hb.2.2.2.2.1.2.1, q.1, q.2.1, q.2.2.1, q.2.2.2.1, q.2.2.2.2.1, q.2.2.2.2.2.1, q.2.2.2.2.2.2.1, q.2.2.2.2.2.2.2⟩))
    clear hq0
    have HKP := Lib.hid (fun (W W' : World) (h : TB w FA fn FC VA vn VC 16 (some ad) n c nm v W ∧ THeld w FA fn FC VA vn VC ad n c p0 A0 n0 c0 m0 y0 W) (hb : Below W.heap.size W W') => And.intro (h.1.below hb) (HHELD.out _ (h.1.below hb)))
    have HKS := Lib.hid (fun (W : World) (b : Nat) (u0 u1 u2 u3 u4 : Value) (hge : w.heap.size + 3 ≤ b) (h : TB w FA fn FC VA vn VC 16 (some ad) n c nm v W ∧ THeld w FA fn FC VA vn VC ad n c p0 A0 n0 c0 m0 y0 W) => let hb := below_set5 (Below.refl (w.heap.size + 3) W) hge u0 u1 u2 u3 u4; And.intro (h.1.below3 hb) (HHELD.out _ (h.1.below3 hb)))
    go_enter Tryz.func148, Tryz.ntmps148
    go_upto_region 6 with fail
    generalize ((w.alloc (.cells #[.slice FA fn FC, .slice VA vn VC] 126)).alloc (.cells #[.int .i64 16, .slice (some ad) n c, .string nm, .int .i64 v.k, .int .i64 v.i, .bool v.b, .string v.s, .float .f64 v.n] 27)).alloc (.cells #[.int .i64 0, .int .i64 0, .bool false, .string { data := #[] }, .float .f64 0] 25) = wb at *
    have hS0 : TB w FA fn FC VA vn VC 16 (some ad) n c nm v wb.drew ∧ THeld w FA fn FC VA vn VC ad n c p0 A0 n0 c0 m0 y0 wb.drew := ⟨htb.below (Below.refl _ _).drew, HHELD.out _ (htb.below (Below.refl _ _).drew)⟩
    refine wp_region_held_drew (S := (fun W => TB w FA fn FC VA vn VC 16 (some ad) n c nm v W ∧ THeld w FA fn FC VA vn VC ad n c p0 A0 n0 c0 m0 y0 W)) (by kernel_rfl) (hS0) (fun hHeld => ?_)
    refine wpAnyH_take (i := 0) (oi := ?oi31) (v := ?v31) ?hi31 (by kernel_rfl) (by kernel_rfl) (by kernel_rfl) ?hQ31 (Or.inl ⟨?hw31, ?hy31⟩) (by assumption) ?rest31
    case hi31 => (simp only [gA, gB, gC]; rfl)
    case hQ31 => exact fun _ _ _ h => h
    case hw31 => rfl
    case hy31 => (intro w hSw; (try dsimp only at hSw); go_simp; try with_reducible rfl)
    (try simp only [Act.put, sA, sB, sC])
    refine wpAnyH_take (i := 1) (oi := ?oi32) (v := ?v32) ?hi32 (by kernel_rfl) (by kernel_rfl) (by kernel_rfl) ?hQ32 (Or.inl ⟨?hw32, ?hy32⟩) (by assumption) ?rest32
    case hi32 => (simp only [gA, gB, gC]; rfl)
    case hQ32 => exact fun _ _ _ h => h
    case hw32 => rfl
    case hy32 => (intro w hSw; (try dsimp only at hSw); go_simp; try with_reducible rfl)
    (try simp only [Act.put, sA, sB, sC])
    refine wpAnyH_take (i := 2) (oi := ?oi33) (v := ?v33) ?hi33 (by kernel_rfl) (by kernel_rfl) (by kernel_rfl) ?hQ33 (Or.inl ⟨?hw33, ?hy33⟩) (by assumption) ?rest33
    case hi33 => (simp only [gA, gB, gC]; rfl)
    case hQ33 => exact fun _ _ _ h => h
    case hw33 => rfl
    case hy33 => (intro w hSw; (try dsimp only at hSw); go_simp; try with_reducible rfl)
    (try simp only [Act.put, sA, sB, sC])
    refine wpAnyH_take (i := 3) (oi := ?oi34) (v := ?v34) ?hi34 (by kernel_rfl) (by kernel_rfl) (by kernel_rfl) ?hQ34 (Or.inl ⟨?hw34, ?hy34⟩) (by assumption) ?rest34
    case hi34 => (simp only [gA, gB, gC]; rfl)
    case hQ34 => exact fun _ _ _ h => h
    case hw34 => rfl
    case hy34 => (intro w hSw; (try dsimp only at hSw); go_simp; try with_reducible rfl)
    (try simp only [Act.put, sA, sB, sC])
    refine wpAnyH_take (i := 4) (oi := ?oi35) (v := ?v35) ?hi35 (by kernel_rfl) (by kernel_rfl) (by kernel_rfl) ?hQ35 (Or.inl ⟨?hw35, ?hy35⟩) (by assumption) ?rest35
    case hi35 => (simp only [gA, gB, gC]; rfl)
    case hQ35 => exact fun _ _ _ h => h
    case hw35 => rfl
    case hy35 => (intro w hSw; (try dsimp only at hSw); go_simp; try with_reducible rfl)
    (try simp only [Act.put, sA, sB, sC])
    refine wpAnyH_ready (rs := [5, 6]) (by kernel_rfl) (by simp) ?_
    refine AllReadyH.cons (o := ?o36) ?ho36 (fun K hK => ?st36) (AllReadyH.cons (o := ?o37) ?ho37 (fun K hK => ?st37) AllReadyH.nil)
    case ho36 => (simp only [gA, gB, gC]; rfl)
    case ho37 => (simp only [gA, gB, gC]; rfl)
    · go_simp
      refine (H0.out _ (And.left (And.left hHeld))).mono ?_; rintro e wA ⟨rfl, hbA⟩
      exact ⟨rfl, (if_neg HZ.out).symm, (And.left (And.left hHeld)).trans (hbA.mono (And.left (And.left hHeld)).size)⟩
    · go_simp
      refine hK.out _ _ ?_ (fun hHeld => ?_)
      · (try dsimp only); exact HKP.out _ _ hS0 (alloc1 _ _)
      clear hK K
      (try simp only [Act.put, sA, sB, sC])
      refine wpAnyH_ready (rs := [5]) (by kernel_rfl) (by simp) ?_
      refine AllReadyH.cons (o := ?o38) ?ho38 (fun K hK => ?st38) AllReadyH.nil
      case ho38 => (simp only [gA, gB, gC]; rfl)
      go_simp
      refine (H0.out _ (And.left (And.left hHeld))).mono ?_; rintro e wA ⟨rfl, hbA⟩
      exact ⟨rfl, (if_neg HZ.out).symm, (And.left (And.left hHeld)).trans (hbA.mono (And.left (And.left hHeld)).size)⟩
set_option maxHeartbeats 600000 in
theorem tell_12 (FA : Option Addr) (fn FC : Nat) (VA : Option Addr) (vn VC : Nat) (ad : Addr) (n c : Nat) (nm : ByteArray) (v : Vl) (w : World) (A0 : Option Addr) (n0 c0 : Nat) (m0 : ByteArray) (y0 : Vl) (p0 : Int) (R0 : Vl × Int) (hq0 : ∀ W, Below w.heap.size w W → Kid W ad p0 A0 n0 c0 m0 y0) (h0 : ∀ W, Below w.heap.size w W → Calls Tryz.prog 148 #[agR FA fn FC VA vn VC, agX p0 A0 n0 c0 m0 y0] W (TellP R0 W)) (hv0 : R0.2 = 0 → okV R0.1) (hn : 0 < n) :
    Calls Tryz.prog 148 #[agR FA fn FC VA vn VC, agX 12 (some ad) n c nm v] w (TellP (if R0.2 ≠ 0 then (vZero, R0.2) else (vTruth (!R0.1.b), 0)) w) := by
  have hsf := fun (w : World) (a : Addr) (m : Mode) (b : Nat) => run_store Tryz.prog w a (.float .f64 b) m rfl
  have hi : (0 : Int) < (n : Int) := by omega
  have hn0 : 0 < n := by omega
  obtain ⟨r1, r2⟩ := R0
  have H0 := Lib.hid h0
  clear h0
  by_cases hz : r2 = 0
  · subst hz
    rw [if_neg (fun h => h rfl)]
    have h0 := fun W hb => (H0.out W hb).mono (fun e w' h => (⟨h.1.trans (if_pos rfl), h.2⟩ : e = .returned (agV r1) ∧ Below W.heap.size W w'))
    clear H0
    have H0 := Lib.hid h0
    clear h0 hv0
    have htb : TB w FA fn FC VA vn VC 12 (some ad) n c nm v (((w.alloc (.cells #[.slice FA fn FC, .slice VA vn VC] 126)).alloc (.cells #[.int .i64 12, .slice (some ad) n c, .string nm, .int .i64 v.k, .int .i64 v.i, .bool v.b, .string v.s, .float .f64 v.n] 27)).alloc (.cells #[.int .i64 0, .int .i64 0, .bool false, .string { data := #[] }, .float .f64 0] 25)) := TB_new w FA fn FC VA vn VC 12 (some ad) n c nm v
    have HHELD := Lib.hid (fun W (hb : TB w FA fn FC VA vn VC 12 (some ad) n c nm v W) => (show THeld w FA fn FC VA vn VC ad n c p0 A0 n0 c0 m0 y0 W from let q := hq0 W hb.1; ⟨hb.2.2.1, hb.2.2.2.1, hb.2.2.2.2.1.2.1, q.1, q.2.1, q.2.2.1, q.2.2.2.1, q.2.2.2.2.1, q.2.2.2.2.2.1, q.2.2.2.2.2.2.1, q.2.2.2.2.2.2.2⟩))
    clear hq0
    have HKP := Lib.hid (fun (W W' : World) (h : TB w FA fn FC VA vn VC 12 (some ad) n c nm v W ∧ THeld w FA fn FC VA vn VC ad n c p0 A0 n0 c0 m0 y0 W) (hb : Below W.heap.size W W') => And.intro (h.1.below hb) (HHELD.out _ (h.1.below hb)))
    have HKS := Lib.hid (fun (W : World) (b : Nat) (u0 u1 u2 u3 u4 : Value) (hge : w.heap.size + 3 ≤ b) (h : TB w FA fn FC VA vn VC 12 (some ad) n c nm v W ∧ THeld w FA fn FC VA vn VC ad n c p0 A0 n0 c0 m0 y0 W) => let hb := below_set5 (Below.refl (w.heap.size + 3) W) hge u0 u1 u2 u3 u4; And.intro (h.1.below3 hb) (HHELD.out _ (h.1.below3 hb)))
    go_enter Tryz.func148, Tryz.ntmps148
    go_upto_region 6 with fail
    generalize ((w.alloc (.cells #[.slice FA fn FC, .slice VA vn VC] 126)).alloc (.cells #[.int .i64 12, .slice (some ad) n c, .string nm, .int .i64 v.k, .int .i64 v.i, .bool v.b, .string v.s, .float .f64 v.n] 27)).alloc (.cells #[.int .i64 0, .int .i64 0, .bool false, .string { data := #[] }, .float .f64 0] 25) = wb at *
    go_cut [5] from 23 to 28 (fun s5 wx => ∃ b, s5 = .pointer (some ⟨b, 0, none⟩) ∧ w.heap.size + 3 ≤ b ∧ TB w FA fn FC VA vn VC 12 (some ad) n c nm v wx ∧ Bx wx b r1)
    case first =>
      have hS0 : TB w FA fn FC VA vn VC 12 (some ad) n c nm v wb.drew ∧ THeld w FA fn FC VA vn VC ad n c p0 A0 n0 c0 m0 y0 wb.drew := ⟨htb.below (Below.refl _ _).drew, HHELD.out _ (htb.below (Below.refl _ _).drew)⟩
      refine wp_region_held_drew (S := (fun W => TB w FA fn FC VA vn VC 12 (some ad) n c nm v W ∧ THeld w FA fn FC VA vn VC ad n c p0 A0 n0 c0 m0 y0 W)) (by kernel_rfl) (hS0) (fun hHeld => ?_)
      refine wpAnyH_take (i := 0) (oi := ?oi39) (v := ?v39) ?hi39 (by kernel_rfl) (by kernel_rfl) (by kernel_rfl) ?hQ39 (Or.inl ⟨?hw39, ?hy39⟩) (by assumption) ?rest39
      case hi39 => (simp only [gA, gB, gC]; rfl)
      case hQ39 => exact fun _ _ _ h => h
      case hw39 => rfl
      case hy39 => (intro w hSw; (try dsimp only at hSw); go_simp; try with_reducible rfl)
      (try simp only [Act.put, sA, sB, sC])
      refine wpAnyH_take (i := 1) (oi := ?oi40) (v := ?v40) ?hi40 (by kernel_rfl) (by kernel_rfl) (by kernel_rfl) ?hQ40 (Or.inl ⟨?hw40, ?hy40⟩) (by assumption) ?rest40
      case hi40 => (simp only [gA, gB, gC]; rfl)
      case hQ40 => exact fun _ _ _ h => h
      case hw40 => rfl
      case hy40 => (intro w hSw; (try dsimp only at hSw); go_simp; try with_reducible rfl)
      (try simp only [Act.put, sA, sB, sC])
      refine wpAnyH_take (i := 2) (oi := ?oi41) (v := ?v41) ?hi41 (by kernel_rfl) (by kernel_rfl) (by kernel_rfl) ?hQ41 (Or.inl ⟨?hw41, ?hy41⟩) (by assumption) ?rest41
      case hi41 => (simp only [gA, gB, gC]; rfl)
      case hQ41 => exact fun _ _ _ h => h
      case hw41 => rfl
      case hy41 => (intro w hSw; (try dsimp only at hSw); go_simp; try with_reducible rfl)
      (try simp only [Act.put, sA, sB, sC])
      refine wpAnyH_take (i := 3) (oi := ?oi42) (v := ?v42) ?hi42 (by kernel_rfl) (by kernel_rfl) (by kernel_rfl) ?hQ42 (Or.inl ⟨?hw42, ?hy42⟩) (by assumption) ?rest42
      case hi42 => (simp only [gA, gB, gC]; rfl)
      case hQ42 => exact fun _ _ _ h => h
      case hw42 => rfl
      case hy42 => (intro w hSw; (try dsimp only at hSw); go_simp; try with_reducible rfl)
      (try simp only [Act.put, sA, sB, sC])
      refine wpAnyH_take (i := 4) (oi := ?oi43) (v := ?v43) ?hi43 (by kernel_rfl) (by kernel_rfl) (by kernel_rfl) ?hQ43 (Or.inl ⟨?hw43, ?hy43⟩) (by assumption) ?rest43
      case hi43 => (simp only [gA, gB, gC]; rfl)
      case hQ43 => exact fun _ _ _ h => h
      case hw43 => rfl
      case hy43 => (intro w hSw; (try dsimp only at hSw); go_simp; try with_reducible rfl)
      (try simp only [Act.put, sA, sB, sC])
      refine wpAnyH_ready (rs := [5, 6]) (by kernel_rfl) (by simp) ?_
      refine AllReadyH.cons (o := ?o44) ?ho44 (fun K hK => ?st44) (AllReadyH.cons (o := ?o45) ?ho45 (fun K hK => ?st45) AllReadyH.nil)
      case ho44 => (simp only [gA, gB, gC]; rfl)
      case ho45 => (simp only [gA, gB, gC]; rfl)
      · go_simp
        refine (H0.out _ (And.left (And.left hHeld))).mono ?_; rintro e wA ⟨rfl, hbA⟩; have hSA := HKP.out _ _ hHeld hbA
        refine hK.out _ _ ?_ (fun hHeld => ?_)
        · (try dsimp only); exact hSA
        clear hK K
        (try simp only [Act.put, sA, sB, sC])
        refine wpAnyH_ready (rs := [6]) (by kernel_rfl) (by simp) ?_
        refine AllReadyH.cons (o := ?o46) ?ho46 (fun K hK => ?st46) AllReadyH.nil
        case ho46 => (simp only [gA, gB, gC]; rfl)
        go_simp
        refine hK.out _ _ ?_ (fun hHeld => ?_)
        · (try dsimp only); exact HKP.out _ _ hSA (alloc1 _ _)
        clear hK K
        (try simp only [Act.put, sA, sB, sC])
        refine wpAnyH_ready (rs := [7]) (by kernel_rfl) (by simp) ?_
        refine AllReadyH.cons (o := ?o47) ?ho47 (fun K hK => ?st47) AllReadyH.nil
        case ho47 => (simp only [gA, gB, gC]; rfl)
        go_simp
        refine hK.out _ _ ?_ (fun hHeld => ?_)
        · (try dsimp only); exact HKP.out _ _ hSA (alloc1 _ _)
        clear hK K
        (try simp only [Act.put, sA, sB, sC])
        refine wpAnyH_done (by kernel_rfl) ?_ _
        go_wp2_with fail
        go_meet
        exact ⟨_, rfl, hSA.1.2.1, hHeld.1, Bx.new _ r1⟩
      · go_simp
        refine hK.out _ _ ?_ (fun hHeld => ?_)
        · (try dsimp only); exact HKP.out _ _ hS0 (alloc1 _ _)
        clear hK K
        (try simp only [Act.put, sA, sB, sC])
        refine wpAnyH_ready (rs := [5]) (by kernel_rfl) (by simp) ?_
        refine AllReadyH.cons (o := ?o48) ?ho48 (fun K hK => ?st48) AllReadyH.nil
        case ho48 => (simp only [gA, gB, gC]; rfl)
        go_simp
        refine (H0.out _ (And.left (And.left hHeld))).mono ?_; rintro e wA ⟨rfl, hbA⟩; have hSA := HKP.out _ _ hHeld hbA; obtain ⟨e0, e1, e2, e3, e4, ef⟩ := newcells hbA
        refine hK.out _ _ ?_ (fun hHeld => ?_)
        · (try dsimp only); exact hSA
        clear hK K
        (try simp only [Act.put, sA, sB, sC])
        refine wpAnyH_ready (rs := [7]) (by kernel_rfl) (by simp) ?_
        refine AllReadyH.cons (o := ?o49) ?ho49 (fun K hK => ?st49) AllReadyH.nil
        case ho49 => (simp only [gA, gB, gC]; rfl)
        go_simp
        refine hK.out _ _ ?_ (fun hHeld => ?_)
        · (try dsimp only); exact HKS.out _ _ _ _ _ _ _ htb.2.1 hSA
        clear hK K
        (try simp only [Act.put, sA, sB, sC])
        refine wpAnyH_done (by kernel_rfl) ?_ _
        go_wp2_with fail
        go_meet
        exact ⟨_, rfl, htb.2.1, hHeld.1, bx_set e0 e1 e2 e3 e4⟩
    case rest =>
      clear htb HHELD HKP HKS
      obtain ⟨b, rfl, hbge, hTB, hx0, hx1, hx2, hx3, hx4⟩ := hcut
      obtain ⟨d0, d1, d2, d3, d4, d5, d6, d7⟩ := hTB.2.2.2.2.1
      have g0 := hTB.2.2.1
      have g1 := hTB.2.2.2.1
      go_wp2_with (first
        | (go_at_call 189; refine (etruth_any _ _).mono ?_; rintro e w3 ⟨rfl, hb3⟩; have hT3 := hTB.below hb3; obtain ⟨ou0, ou1, ou2, ou3, ou4, ov0, ov1, ov2, ov3, ov4, ovf⟩ := TB.out hT3))
      exact bodyPost_ret (v := agV (vTruth (!r1.b))) (by simp [results, Tryz.results148, go_sem, ov0, ov1, ov2, ov3, ov4]) rfl ⟨rfl, TB.done hT3 _ _ _ _ _⟩
  · have h0 := fun W hb => (H0.out W hb).mono (fun e w' h => (⟨h.1.trans (if_neg hz), h.2⟩ : e = .panicked (PV r2) ∧ Below W.heap.size W w'))
    clear H0
    have H0 := Lib.hid h0
    have HZ := Lib.hid hz
    rw [if_pos hz]
    clear h0 hv0 hz
    have htb : TB w FA fn FC VA vn VC 12 (some ad) n c nm v (((w.alloc (.cells #[.slice FA fn FC, .slice VA vn VC] 126)).alloc (.cells #[.int .i64 12, .slice (some ad) n c, .string nm, .int .i64 v.k, .int .i64 v.i, .bool v.b, .string v.s, .float .f64 v.n] 27)).alloc (.cells #[.int .i64 0, .int .i64 0, .bool false, .string { data := #[] }, .float .f64 0] 25)) := TB_new w FA fn FC VA vn VC 12 (some ad) n c nm v
    have HHELD := Lib.hid (fun W (hb : TB w FA fn FC VA vn VC 12 (some ad) n c nm v W) => (show THeld w FA fn FC VA vn VC ad n c p0 A0 n0 c0 m0 y0 W from let q := hq0 W hb.1; ⟨hb.2.2.1, hb.2.2.2.1, hb.2.2.2.2.1.2.1, q.1, q.2.1, q.2.2.1, q.2.2.2.1, q.2.2.2.2.1, q.2.2.2.2.2.1, q.2.2.2.2.2.2.1, q.2.2.2.2.2.2.2⟩))
    clear hq0
    have HKP := Lib.hid (fun (W W' : World) (h : TB w FA fn FC VA vn VC 12 (some ad) n c nm v W ∧ THeld w FA fn FC VA vn VC ad n c p0 A0 n0 c0 m0 y0 W) (hb : Below W.heap.size W W') => And.intro (h.1.below hb) (HHELD.out _ (h.1.below hb)))
    have HKS := Lib.hid (fun (W : World) (b : Nat) (u0 u1 u2 u3 u4 : Value) (hge : w.heap.size + 3 ≤ b) (h : TB w FA fn FC VA vn VC 12 (some ad) n c nm v W ∧ THeld w FA fn FC VA vn VC ad n c p0 A0 n0 c0 m0 y0 W) => let hb := below_set5 (Below.refl (w.heap.size + 3) W) hge u0 u1 u2 u3 u4; And.intro (h.1.below3 hb) (HHELD.out _ (h.1.below3 hb)))
    go_enter Tryz.func148, Tryz.ntmps148
    go_upto_region 6 with fail
    generalize ((w.alloc (.cells #[.slice FA fn FC, .slice VA vn VC] 126)).alloc (.cells #[.int .i64 12, .slice (some ad) n c, .string nm, .int .i64 v.k, .int .i64 v.i, .bool v.b, .string v.s, .float .f64 v.n] 27)).alloc (.cells #[.int .i64 0, .int .i64 0, .bool false, .string { data := #[] }, .float .f64 0] 25) = wb at *
    have hS0 : TB w FA fn FC VA vn VC 12 (some ad) n c nm v wb.drew ∧ THeld w FA fn FC VA vn VC ad n c p0 A0 n0 c0 m0 y0 wb.drew := ⟨htb.below (Below.refl _ _).drew, HHELD.out _ (htb.below (Below.refl _ _).drew)⟩
    refine wp_region_held_drew (S := (fun W => TB w FA fn FC VA vn VC 12 (some ad) n c nm v W ∧ THeld w FA fn FC VA vn VC ad n c p0 A0 n0 c0 m0 y0 W)) (by kernel_rfl) (hS0) (fun hHeld => ?_)
    refine wpAnyH_take (i := 0) (oi := ?oi50) (v := ?v50) ?hi50 (by kernel_rfl) (by kernel_rfl) (by kernel_rfl) ?hQ50 (Or.inl ⟨?hw50, ?hy50⟩) (by assumption) ?rest50
    case hi50 => (simp only [gA, gB, gC]; rfl)
    case hQ50 => exact fun _ _ _ h => h
    case hw50 => rfl
    case hy50 => (intro w hSw; (try dsimp only at hSw); go_simp; try with_reducible rfl)
    (try simp only [Act.put, sA, sB, sC])
    refine wpAnyH_take (i := 1) (oi := ?oi51) (v := ?v51) ?hi51 (by kernel_rfl) (by kernel_rfl) (by kernel_rfl) ?hQ51 (Or.inl ⟨?hw51, ?hy51⟩) (by assumption) ?rest51
    case hi51 => (simp only [gA, gB, gC]; rfl)
    case hQ51 => exact fun _ _ _ h => h
    case hw51 => rfl
    case hy51 => (intro w hSw; (try dsimp only at hSw); go_simp; try with_reducible rfl)
    (try simp only [Act.put, sA, sB, sC])
    refine wpAnyH_take (i := 2) (oi := ?oi52) (v := ?v52) ?hi52 (by kernel_rfl) (by kernel_rfl) (by kernel_rfl) ?hQ52 (Or.inl ⟨?hw52, ?hy52⟩) (by assumption) ?rest52
    case hi52 => (simp only [gA, gB, gC]; rfl)
    case hQ52 => exact fun _ _ _ h => h
    case hw52 => rfl
    case hy52 => (intro w hSw; (try dsimp only at hSw); go_simp; try with_reducible rfl)
    (try simp only [Act.put, sA, sB, sC])
    refine wpAnyH_take (i := 3) (oi := ?oi53) (v := ?v53) ?hi53 (by kernel_rfl) (by kernel_rfl) (by kernel_rfl) ?hQ53 (Or.inl ⟨?hw53, ?hy53⟩) (by assumption) ?rest53
    case hi53 => (simp only [gA, gB, gC]; rfl)
    case hQ53 => exact fun _ _ _ h => h
    case hw53 => rfl
    case hy53 => (intro w hSw; (try dsimp only at hSw); go_simp; try with_reducible rfl)
    (try simp only [Act.put, sA, sB, sC])
    refine wpAnyH_take (i := 4) (oi := ?oi54) (v := ?v54) ?hi54 (by kernel_rfl) (by kernel_rfl) (by kernel_rfl) ?hQ54 (Or.inl ⟨?hw54, ?hy54⟩) (by assumption) ?rest54
    case hi54 => (simp only [gA, gB, gC]; rfl)
    case hQ54 => exact fun _ _ _ h => h
    case hw54 => rfl
    case hy54 => (intro w hSw; (try dsimp only at hSw); go_simp; try with_reducible rfl)
    (try simp only [Act.put, sA, sB, sC])
    refine wpAnyH_ready (rs := [5, 6]) (by kernel_rfl) (by simp) ?_
    refine AllReadyH.cons (o := ?o55) ?ho55 (fun K hK => ?st55) (AllReadyH.cons (o := ?o56) ?ho56 (fun K hK => ?st56) AllReadyH.nil)
    case ho55 => (simp only [gA, gB, gC]; rfl)
    case ho56 => (simp only [gA, gB, gC]; rfl)
    · go_simp
      refine (H0.out _ (And.left (And.left hHeld))).mono ?_; rintro e wA ⟨rfl, hbA⟩
      exact ⟨rfl, (if_neg HZ.out).symm, (And.left (And.left hHeld)).trans (hbA.mono (And.left (And.left hHeld)).size)⟩
    · go_simp
      refine hK.out _ _ ?_ (fun hHeld => ?_)
      · (try dsimp only); exact HKP.out _ _ hS0 (alloc1 _ _)
      clear hK K
      (try simp only [Act.put, sA, sB, sC])
      refine wpAnyH_ready (rs := [5]) (by kernel_rfl) (by simp) ?_
      refine AllReadyH.cons (o := ?o57) ?ho57 (fun K hK => ?st57) AllReadyH.nil
      case ho57 => (simp only [gA, gB, gC]; rfl)
      go_simp
      refine (H0.out _ (And.left (And.left hHeld))).mono ?_; rintro e wA ⟨rfl, hbA⟩
      exact ⟨rfl, (if_neg HZ.out).symm, (And.left (And.left hHeld)).trans (hbA.mono (And.left (And.left hHeld)).size)⟩
end Go.Proofs.YtkhpgejammgolaaGreat
