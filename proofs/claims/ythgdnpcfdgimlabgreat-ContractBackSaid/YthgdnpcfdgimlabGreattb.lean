/- tb: EForm2 EHold EChk EChk2 EFld ETell ETell2 ETell4 ETell5 ETell3 ETell6 ETell7 ETell8 EFit ETell9 ELaw EAw0 CMem EArgs CArgs EPut ERFit ESound ERSmall ERPut ERows ERows2 EKid ERSame EGet1 EGet2 EGet3 EGet4 EBack CByt CConcat CIdx (made by shake.py). -/
import Derived.StillTailTactics
import Derived.Deep.OwnRows
import Derived.WalkLawsBesides
import Derived.Defers
import Derived.Recover
import Derived.Deep.RegionHeld3
import Derived.Lib.AppendZeros
import Derived.Test.YthgdnpcfdgimlabGreatta
/- Layer 5: is a part's form right, by the program. -/
namespace Go.Proofs.YthgdnpcfdgimlabGreat
open Go.RowKit
set_option linter.unusedVariables false
set_option linter.unusedSimpArgs false
set_option maxRecDepth 20000

theorem kidsOf_same (op : Int) (w : World) : Calls Tryz.prog 193 #[.int .i64 op] w fun e w' => e = .returned (.int .i64 (kidsN op)) ∧ w' = w := (kidsOf_any op w).mono fun e w' h => ⟨h.1, h.2.symm⟩
/-- the cells of one that is boxed at block b -/
def CellsX (W : World) (b : Nat) (op : Int) (A : Option Addr) (n c : Nat) (nm : ByteArray) (y : Vl) : Prop :=
  W.cell? ⟨b, 0, none⟩ = some (.int .i64 op) ∧ W.cell? ⟨b, 1, none⟩ = some (.slice A n c) ∧ W.cell? ⟨b, 2, none⟩ = some (.string nm) ∧ W.cell? ⟨b, 3, none⟩ = some (.int .i64 y.k) ∧ W.cell? ⟨b, 4, none⟩ = some (.int .i64 y.i) ∧ W.cell? ⟨b, 5, none⟩ = some (.bool y.b) ∧ W.cell? ⟨b, 6, none⟩ = some (.string y.s) ∧ W.cell? ⟨b, 7, none⟩ = some (.float .f64 y.n)
theorem CellsX.below {W W' : World} {b : Nat} {op : Int} {A : Option Addr} {n c : Nat} {nm : ByteArray} {y : Vl} (h : CellsX W b op A n c nm y) (hb : Below W.heap.size W W') : CellsX W' b op A n c nm y := by
  have hl : b < W.heap.size := World.block_lt_of_cell? W _ h.1
  exact ⟨keepc hb hl h.1, keepc hb hl h.2.1, keepc hb hl h.2.2.1, keepc hb hl h.2.2.2.1, keepc hb hl h.2.2.2.2.1, keepc hb hl h.2.2.2.2.2.1, keepc hb hl h.2.2.2.2.2.2.1, keepc hb hl h.2.2.2.2.2.2.2⟩
theorem CellsX_keep (w W W' : World) (op : Int) (A : Option Addr) (n c : Nat) (nm : ByteArray) (y : Vl) (h : Below w.heap.size w W ∧ CellsX W w.heap.size op A n c nm y) (hb : Below W.heap.size W W') : Below w.heap.size w W' ∧ CellsX W' w.heap.size op A n c nm y :=
  ⟨h.1.trans (hb.mono h.1.size), h.2.below hb⟩
theorem Kid_new (w : World) (op : Int) (A : Option Addr) (n c : Nat) (nm : ByteArray) (y : Vl) : CellsX (w.alloc (bxX op A n c nm y)) w.heap.size op A n c nm y := by
  have h := heap_alloc_new w (bxX op A n c nm y)
  exact ⟨(cell_of_row _ _ 0 _ _ (0, 0) h).trans rfl, (cell_of_row _ _ 1 _ _ (0, 0) h).trans rfl, (cell_of_row _ _ 2 _ _ (0, 0) h).trans rfl, (cell_of_row _ _ 3 _ _ (0, 0) h).trans rfl, (cell_of_row _ _ 4 _ _ (0, 0) h).trans rfl, (cell_of_row _ _ 5 _ _ (0, 0) h).trans rfl, (cell_of_row _ _ 6 _ _ (0, 0) h).trans rfl, (cell_of_row _ _ 7 _ _ (0, 0) h).trans rfl⟩
set_option maxHeartbeats 4000000 in
theorem formed_any (op : Int) (nm : ByteArray) (v : Vl) (n c : Nat) (A : Option Addr) (w : World) : Calls Tryz.prog 154 #[agX op A n c nm v] w (VMk (.bool ((kidsN op == (n : Int)) && ((op == 2 || (nm.toList == [])) && (op == 1 || sameV v vZero)))) w) := by
  have hk := kidsOf_same op
  generalize kidsN op = kn at hk ⊢
  have HK := Lib.hid hk
  clear hk
  have hs : ∀ W, Calls Tryz.prog 158 #[agV v, agV vZero] W (VMk (.bool (sameV v vZero)) W) := fun W => Same_val v vZero W
  generalize sameV v vZero = sv at hs ⊢
  have HS := Lib.hid hs
  clear hs
  have HN := Lib.hid (Kid_new w op A n c nm v)
  have HKP := Lib.hid (fun (W W' : World) (h : Below w.heap.size w W ∧ CellsX W w.heap.size op A n c nm v) (hb : Below W.heap.size W W') => (CellsX_keep w W W' op A n c nm v h hb))
  simp only [CellsX] at HKP
  have hen : (nm.toList == (⟨#[]⟩ : ByteArray).toList) = (nm.toList == []) := by rw [empty_list]
  rcases h1 : (kn == (n : Int)) with _ | _
  · show Calls _ _ _ _ (VMk (.bool false) w)
    go_enter Tryz.func154, Tryz.ntmps154
    go_wp2
    go_quiet ((go_at_call 193; exact Calls.quiet_of_same (HK.out _)))
    go_wp2
    go_ret
    exact ⟨rfl, below_drewN ((Below.refl _ _).alloc (Nat.le_refl _) _) _⟩
  · rcases h2 : (op == 2) with _ | _
    · rcases h3 : (nm.toList == []) with _ | _
      · show Calls _ _ _ _ (VMk (.bool false) w)
        rw [h3] at hen
        go_enter Tryz.func154, Tryz.ntmps154
        go_wp2
        go_quiet ((go_at_call 193; exact Calls.quiet_of_same (HK.out _)))
        go_wp2
        go_ret
        exact ⟨rfl, below_drewN ((Below.refl _ _).alloc (Nat.le_refl _) _) _⟩
      · rw [h3] at hen
        rcases h4 : (op == 1) with _ | _
        · show Calls _ _ _ _ (VMk (.bool sv) w)
          go_enter Tryz.func154, Tryz.ntmps154
          go_wp2
          refine wp_region_held_drew (S := (fun W => Below w.heap.size w W ∧ W.cell? ⟨w.heap.size, 0, none⟩ = some (.int .i64 op) ∧ W.cell? ⟨w.heap.size, 1, none⟩ = some (.slice A n c) ∧ W.cell? ⟨w.heap.size, 2, none⟩ = some (.string nm) ∧ W.cell? ⟨w.heap.size, 3, none⟩ = some (.int .i64 v.k) ∧ W.cell? ⟨w.heap.size, 4, none⟩ = some (.int .i64 v.i) ∧ W.cell? ⟨w.heap.size, 5, none⟩ = some (.bool v.b) ∧ W.cell? ⟨w.heap.size, 6, none⟩ = some (.string v.s) ∧ W.cell? ⟨w.heap.size, 7, none⟩ = some (.float .f64 v.n))) (by kernel_rfl) (⟨((Below.refl _ _).alloc (Nat.le_refl _) _).drew, HN.out.1, HN.out.2.1, HN.out.2.2.1, HN.out.2.2.2.1, HN.out.2.2.2.2.1, HN.out.2.2.2.2.2.1, HN.out.2.2.2.2.2.2.1, HN.out.2.2.2.2.2.2.2⟩) (fun hHeld => ?_)
          refine wpAnyH_take (i := 0) (oi := ?oi1) (v := ?v1) ?hi1 (by kernel_rfl) (by kernel_rfl) (by kernel_rfl) ?hQ1 (Or.inl ⟨?hw1, ?hy1⟩) (by assumption) ?rest1
          case hi1 => (simp only [gA, gB, gC]; rfl)
          case hQ1 => exact fun _ _ _ h => h
          case hw1 => rfl
          case hy1 => (intro w hSw; (try dsimp only at hSw); go_simp; try with_reducible rfl)
          (try simp only [Act.put, sA, sB, sC])
          refine wpAnyH_take (i := 1) (oi := ?oi2) (v := ?v2) ?hi2 (by kernel_rfl) (by kernel_rfl) (by kernel_rfl) ?hQ2 (Or.inl ⟨?hw2, ?hy2⟩) (by assumption) ?rest2
          case hi2 => (simp only [gA, gB, gC]; rfl)
          case hQ2 => exact fun _ _ _ h => h
          case hw2 => rfl
          case hy2 => (intro w hSw; (try dsimp only at hSw); go_simp; try with_reducible rfl)
          (try simp only [Act.put, sA, sB, sC])
          refine wpAnyH_take (i := 3) (oi := ?oi3) (v := ?v3) ?hi3 (by kernel_rfl) (by kernel_rfl) (by kernel_rfl) ?hQ3 (Or.inl ⟨?hw3, ?hy3⟩) (by assumption) ?rest3
          case hi3 => (simp only [gA, gB, gC]; rfl)
          case hQ3 => exact fun _ _ _ h => h
          case hw3 => rfl
          case hy3 => (intro w hSw; (try dsimp only at hSw); go_simp; try with_reducible rfl)
          (try simp only [Act.put, sA, sB, sC])
          refine wpAnyH_take (i := 4) (oi := ?oi4) (v := ?v4) ?hi4 (by kernel_rfl) (by kernel_rfl) (by kernel_rfl) ?hQ4 (Or.inl ⟨?hw4, ?hy4⟩) (by assumption) ?rest4
          case hi4 => (simp only [gA, gB, gC]; rfl)
          case hQ4 => exact fun _ _ _ h => h
          case hw4 => rfl
          case hy4 => (intro w hSw; (try dsimp only at hSw); go_simp; try with_reducible rfl)
          (try simp only [Act.put, sA, sB, sC])
          refine wpAnyH_take (i := 5) (oi := ?oi5) (v := ?v5) ?hi5 (by kernel_rfl) (by kernel_rfl) (by kernel_rfl) ?hQ5 (Or.inl ⟨?hw5, ?hy5⟩) (by assumption) ?rest5
          case hi5 => (simp only [gA, gB, gC]; rfl)
          case hQ5 => exact fun _ _ _ h => h
          case hw5 => rfl
          case hy5 => (intro w hSw; (try dsimp only at hSw); go_simp; try with_reducible rfl)
          (try simp only [Act.put, sA, sB, sC])
          refine wpAnyH_ready (rs := [2]) (by kernel_rfl) (by simp) ?_
          refine AllReadyH.cons (o := ?o6) ?ho6 (fun K hK => ?st6) AllReadyH.nil
          case ho6 => (simp only [gA, gB, gC]; rfl)
          go_simp
          refine (HK.out _).mono ?_; rintro e wK ⟨rfl, rfl⟩
          refine hK.out _ _ ?_ (fun hHeld => ?_)
          · (try dsimp only); (first | assumption | exact HKP.out _ _ (by assumption) hbA)
          clear hK K
          (try simp only [Act.put, sA, sB, sC])
          refine wpAnyH_take (i := 6) (oi := ?oi7) (v := ?v7) ?hi7 (by kernel_rfl) (by kernel_rfl) (by kernel_rfl) ?hQ7 (Or.inl ⟨?hw7, ?hy7⟩) (by assumption) ?rest7
          case hi7 => (simp only [gA, gB, gC]; rfl)
          case hQ7 => exact fun _ _ _ h => h
          case hw7 => rfl
          case hy7 => (intro w hSw; (try dsimp only at hSw); go_simp; try with_reducible rfl)
          (try simp only [Act.put, sA, sB, sC])
          refine wpAnyH_take (i := 7) (oi := ?oi8) (v := ?v8) ?hi8 (by kernel_rfl) (by kernel_rfl) (by kernel_rfl) ?hQ8 (Or.inl ⟨?hw8, ?hy8⟩) (by assumption) ?rest8
          case hi8 => (simp only [gA, gB, gC]; rfl)
          case hQ8 => exact fun _ _ _ h => h
          case hw8 => rfl
          case hy8 => (intro w hSw; (try dsimp only at hSw); go_simp; try with_reducible rfl)
          (try simp only [Act.put, sA, sB, sC])
          refine wpAnyH_take (i := 8) (oi := ?oi9) (v := ?v9) ?hi9 (by kernel_rfl) (by kernel_rfl) (by kernel_rfl) ?hQ9 (Or.inl ⟨?hw9, ?hy9⟩) (by assumption) ?rest9
          case hi9 => (simp only [gA, gB, gC]; rfl)
          case hQ9 => exact fun _ _ _ h => h
          case hw9 => rfl
          case hy9 => (intro w hSw; (try dsimp only at hSw); go_simp; try with_reducible rfl)
          (try simp only [Act.put, sA, sB, sC])
          refine wpAnyH_take (i := 9) (oi := ?oi10) (v := ?v10) ?hi10 (by kernel_rfl) (by kernel_rfl) (by kernel_rfl) ?hQ10 (Or.inl ⟨?hw10, ?hy10⟩) (by assumption) ?rest10
          case hi10 => (simp only [gA, gB, gC]; rfl)
          case hQ10 => exact fun _ _ _ h => h
          case hw10 => rfl
          case hy10 => (intro w hSw; (try dsimp only at hSw); go_simp; try with_reducible rfl)
          (try simp only [Act.put, sA, sB, sC])
          refine wpAnyH_take (i := 10) (oi := ?oi11) (v := ?v11) ?hi11 (by kernel_rfl) (by kernel_rfl) (by kernel_rfl) ?hQ11 (Or.inl ⟨?hw11, ?hy11⟩) (by assumption) ?rest11
          case hi11 => (simp only [gA, gB, gC]; rfl)
          case hQ11 => exact fun _ _ _ h => h
          case hw11 => rfl
          case hy11 => (intro w hSw; (try dsimp only at hSw); go_simp; try with_reducible rfl)
          (try simp only [Act.put, sA, sB, sC])
          refine wpAnyH_take (i := 11) (oi := ?oi12) (v := ?v12) ?hi12 (by kernel_rfl) (by kernel_rfl) (by kernel_rfl) ?hQ12 (Or.inl ⟨?hw12, ?hy12⟩) (by assumption) ?rest12
          case hi12 => (simp only [gA, gB, gC]; rfl)
          case hQ12 => exact fun _ _ _ h => h
          case hw12 => rfl
          case hy12 => (intro w hSw; (try dsimp only at hSw); go_simp; try with_reducible rfl)
          (try simp only [Act.put, sA, sB, sC])
          refine wpAnyH_take (i := 12) (oi := ?oi13) (v := ?v13) ?hi13 (by kernel_rfl) (by kernel_rfl) (by kernel_rfl) ?hQ13 (Or.inl ⟨?hw13, ?hy13⟩) (by assumption) ?rest13
          case hi13 => (simp only [gA, gB, gC]; rfl)
          case hQ13 => exact fun _ _ _ h => h
          case hw13 => rfl
          case hy13 => (intro w hSw; (try dsimp only at hSw); go_simp; try with_reducible rfl)
          (try simp only [Act.put, sA, sB, sC])
          refine wpAnyH_take (i := 13) (oi := ?oi14) (v := ?v14) ?hi14 (by kernel_rfl) (by kernel_rfl) (by kernel_rfl) ?hQ14 (Or.inl ⟨?hw14, ?hy14⟩) (by assumption) ?rest14
          case hi14 => (simp only [gA, gB, gC]; rfl)
          case hQ14 => exact fun _ _ _ h => h
          case hw14 => rfl
          case hy14 => (intro w hSw; (try dsimp only at hSw); go_simp; try with_reducible rfl)
          (try simp only [Act.put, sA, sB, sC])
          refine wpAnyH_take (i := 14) (oi := ?oi15) (v := ?v15) ?hi15 (by kernel_rfl) (by kernel_rfl) (by kernel_rfl) ?hQ15 (Or.inl ⟨?hw15, ?hy15⟩) (by assumption) ?rest15
          case hi15 => (simp only [gA, gB, gC]; rfl)
          case hQ15 => exact fun _ _ _ h => h
          case hw15 => rfl
          case hy15 => (intro w hSw; (try dsimp only at hSw); go_simp; try with_reducible rfl)
          (try simp only [Act.put, sA, sB, sC])
          refine wpAnyH_take (i := 15) (oi := ?oi16) (v := ?v16) ?hi16 (by kernel_rfl) (by kernel_rfl) (by kernel_rfl) ?hQ16 (Or.inl ⟨?hw16, ?hy16⟩) (by assumption) ?rest16
          case hi16 => (simp only [gA, gB, gC]; rfl)
          case hQ16 => exact fun _ _ _ h => h
          case hw16 => rfl
          case hy16 => (intro w hSw; (try dsimp only at hSw); go_simp; try with_reducible rfl)
          (try simp only [Act.put, sA, sB, sC])
          refine wpAnyH_take (i := 16) (oi := ?oi17) (v := ?v17) ?hi17 (by kernel_rfl) (by kernel_rfl) (by kernel_rfl) ?hQ17 (Or.inl ⟨?hw17, ?hy17⟩) (by assumption) ?rest17
          case hi17 => (simp only [gA, gB, gC]; rfl)
          case hQ17 => exact fun _ _ _ h => h
          case hw17 => rfl
          case hy17 => (intro w hSw; (try dsimp only at hSw); go_simp; try with_reducible rfl)
          (try simp only [Act.put, sA, sB, sC])
          refine wpAnyH_take (i := 17) (oi := ?oi18) (v := ?v18) ?hi18 (by kernel_rfl) (by kernel_rfl) (by kernel_rfl) ?hQ18 (Or.inl ⟨?hw18, ?hy18⟩) (by assumption) ?rest18
          case hi18 => (simp only [gA, gB, gC]; rfl)
          case hQ18 => exact fun _ _ _ h => h
          case hw18 => rfl
          case hy18 => (intro w hSw; (try dsimp only at hSw); go_simp; try with_reducible rfl)
          (try simp only [Act.put, sA, sB, sC])
          refine wpAnyH_take (i := 18) (oi := ?oi19) (v := ?v19) ?hi19 (by kernel_rfl) (by kernel_rfl) (by kernel_rfl) ?hQ19 (Or.inl ⟨?hw19, ?hy19⟩) (by assumption) ?rest19
          case hi19 => (simp only [gA, gB, gC]; rfl)
          case hQ19 => exact fun _ _ _ h => h
          case hw19 => rfl
          case hy19 => (intro w hSw; (try dsimp only at hSw); go_simp; try with_reducible rfl)
          (try simp only [Act.put, sA, sB, sC])
          refine wpAnyH_take (i := 19) (oi := ?oi20) (v := ?v20) ?hi20 (by kernel_rfl) (by kernel_rfl) (by kernel_rfl) ?hQ20 (Or.inl ⟨?hw20, ?hy20⟩) (by assumption) ?rest20
          case hi20 => (simp only [gA, gB, gC]; rfl)
          case hQ20 => exact fun _ _ _ h => h
          case hw20 => rfl
          case hy20 => (intro w hSw; (try dsimp only at hSw); go_simp; try with_reducible rfl)
          (try simp only [Act.put, sA, sB, sC])
          refine wpAnyH_take (i := 20) (oi := ?oi21) (v := ?v21) ?hi21 (by kernel_rfl) (by kernel_rfl) (by kernel_rfl) ?hQ21 (Or.inl ⟨?hw21, ?hy21⟩) (by assumption) ?rest21
          case hi21 => (simp only [gA, gB, gC]; rfl)
          case hQ21 => exact fun _ _ _ h => h
          case hw21 => rfl
          case hy21 => (intro w hSw; (try dsimp only at hSw); go_simp; try with_reducible rfl)
          (try simp only [Act.put, sA, sB, sC])
          refine wpAnyH_take (i := 21) (oi := ?oi22) (v := ?v22) ?hi22 (by kernel_rfl) (by kernel_rfl) (by kernel_rfl) ?hQ22 (Or.inl ⟨?hw22, ?hy22⟩) (by assumption) ?rest22
          case hi22 => (simp only [gA, gB, gC]; rfl)
          case hQ22 => exact fun _ _ _ h => h
          case hw22 => rfl
          case hy22 => (intro w hSw; (try dsimp only at hSw); go_simp; try with_reducible rfl)
          (try simp only [Act.put, sA, sB, sC])
          refine wpAnyH_take (i := 22) (oi := ?oi23) (v := ?v23) ?hi23 (by kernel_rfl) (by kernel_rfl) (by kernel_rfl) ?hQ23 (Or.inl ⟨?hw23, ?hy23⟩) (by assumption) ?rest23
          case hi23 => (simp only [gA, gB, gC]; rfl)
          case hQ23 => exact fun _ _ _ h => h
          case hw23 => rfl
          case hy23 => (intro w hSw; (try dsimp only at hSw); go_simp; try with_reducible rfl)
          (try simp only [Act.put, sA, sB, sC])
          refine wpAnyH_take (i := 23) (oi := ?oi24) (v := ?v24) ?hi24 (by kernel_rfl) (by kernel_rfl) (by kernel_rfl) ?hQ24 (Or.inl ⟨?hw24, ?hy24⟩) (by assumption) ?rest24
          case hi24 => (simp only [gA, gB, gC]; rfl)
          case hQ24 => exact fun _ _ _ h => h
          case hw24 => rfl
          case hy24 => (intro w hSw; (try dsimp only at hSw); go_simp; try with_reducible rfl)
          (try simp only [Act.put, sA, sB, sC])
          refine wpAnyH_take (i := 24) (oi := ?oi25) (v := ?v25) ?hi25 (by kernel_rfl) (by kernel_rfl) (by kernel_rfl) ?hQ25 (Or.inl ⟨?hw25, ?hy25⟩) (by assumption) ?rest25
          case hi25 => (simp only [gA, gB, gC]; rfl)
          case hQ25 => exact fun _ _ _ h => h
          case hw25 => rfl
          case hy25 => (intro w hSw; (try dsimp only at hSw); go_simp; try with_reducible rfl)
          (try simp only [Act.put, sA, sB, sC])
          refine wpAnyH_ready (rs := [25]) (by kernel_rfl) (by simp) ?_
          refine AllReadyH.cons (o := ?o26) ?ho26 (fun K hK => ?st26) AllReadyH.nil
          case ho26 => (simp only [gA, gB, gC]; rfl)
          go_simp
          refine (HS.out _).mono ?_; rintro e wA ⟨rfl, hbA⟩
          refine hK.out _ _ ?_ (fun hHeld => ?_)
          · (try dsimp only); (first | assumption | exact HKP.out _ _ (by assumption) hbA)
          clear hK K
          (try simp only [Act.put, sA, sB, sC])
          refine wpAnyH_take (i := 26) (oi := ?oi27) (v := ?v27) ?hi27 (by kernel_rfl) (by kernel_rfl) (by kernel_rfl) ?hQ27 (Or.inl ⟨?hw27, ?hy27⟩) (by assumption) ?rest27
          case hi27 => (simp only [gA, gB, gC]; rfl)
          case hQ27 => exact fun _ _ _ h => h
          case hw27 => rfl
          case hy27 => (intro w hSw; (try dsimp only at hSw); go_simp; try with_reducible rfl)
          (try simp only [Act.put, sA, sB, sC])
          refine wpAnyH_take (i := 27) (oi := ?oi28) (v := ?v28) ?hi28 (by kernel_rfl) (by kernel_rfl) (by kernel_rfl) ?hQ28 (Or.inl ⟨?hw28, ?hy28⟩) (by assumption) ?rest28
          case hi28 => (simp only [gA, gB, gC]; rfl)
          case hQ28 => exact fun _ _ _ h => h
          case hw28 => rfl
          case hy28 => (intro w hSw; (try dsimp only at hSw); go_simp; try with_reducible rfl)
          (try simp only [Act.put, sA, sB, sC])
          refine wpAnyH_take (i := 28) (oi := ?oi29) (v := ?v29) ?hi29 (by kernel_rfl) (by kernel_rfl) (by kernel_rfl) ?hQ29 (Or.inl ⟨?hw29, ?hy29⟩) (by assumption) ?rest29
          case hi29 => (simp only [gA, gB, gC]; rfl)
          case hQ29 => exact fun _ _ _ h => h
          case hw29 => rfl
          case hy29 => (intro w hSw; (try dsimp only at hSw); go_simp; try with_reducible rfl)
          (try simp only [Act.put, sA, sB, sC])
          refine wpAnyH_done (by kernel_rfl) ?_ _
          go_wp2
          go_ret
          exact ⟨rfl, (And.left hHeld)⟩
        · show Calls _ _ _ _ (VMk (.bool true) w)
          go_enter Tryz.func154, Tryz.ntmps154
          go_wp2
          go_quiet ((go_at_call 193; exact Calls.quiet_of_same (HK.out _)))
          go_wp2
          go_ret
          exact ⟨rfl, below_drewN ((Below.refl _ _).alloc (Nat.le_refl _) _) _⟩
    · have h4 : (op == 1) = false := by
        have : op = 2 := by simpa using h2
        subst this; rfl
      rw [h4]
      show Calls _ _ _ _ (VMk (.bool sv) w)
      go_enter Tryz.func154, Tryz.ntmps154
      go_wp2
      refine wp_region_held_drew (S := (fun W => Below w.heap.size w W ∧ W.cell? ⟨w.heap.size, 0, none⟩ = some (.int .i64 op) ∧ W.cell? ⟨w.heap.size, 1, none⟩ = some (.slice A n c) ∧ W.cell? ⟨w.heap.size, 2, none⟩ = some (.string nm) ∧ W.cell? ⟨w.heap.size, 3, none⟩ = some (.int .i64 v.k) ∧ W.cell? ⟨w.heap.size, 4, none⟩ = some (.int .i64 v.i) ∧ W.cell? ⟨w.heap.size, 5, none⟩ = some (.bool v.b) ∧ W.cell? ⟨w.heap.size, 6, none⟩ = some (.string v.s) ∧ W.cell? ⟨w.heap.size, 7, none⟩ = some (.float .f64 v.n))) (by kernel_rfl) (⟨((Below.refl _ _).alloc (Nat.le_refl _) _).drew, HN.out.1, HN.out.2.1, HN.out.2.2.1, HN.out.2.2.2.1, HN.out.2.2.2.2.1, HN.out.2.2.2.2.2.1, HN.out.2.2.2.2.2.2.1, HN.out.2.2.2.2.2.2.2⟩) (fun hHeld => ?_)
      refine wpAnyH_take (i := 0) (oi := ?oi30) (v := ?v30) ?hi30 (by kernel_rfl) (by kernel_rfl) (by kernel_rfl) ?hQ30 (Or.inl ⟨?hw30, ?hy30⟩) (by assumption) ?rest30
      case hi30 => (simp only [gA, gB, gC]; rfl)
      case hQ30 => exact fun _ _ _ h => h
      case hw30 => rfl
      case hy30 => (intro w hSw; (try dsimp only at hSw); go_simp; try with_reducible rfl)
      (try simp only [Act.put, sA, sB, sC])
      refine wpAnyH_take (i := 1) (oi := ?oi31) (v := ?v31) ?hi31 (by kernel_rfl) (by kernel_rfl) (by kernel_rfl) ?hQ31 (Or.inl ⟨?hw31, ?hy31⟩) (by assumption) ?rest31
      case hi31 => (simp only [gA, gB, gC]; rfl)
      case hQ31 => exact fun _ _ _ h => h
      case hw31 => rfl
      case hy31 => (intro w hSw; (try dsimp only at hSw); go_simp; try with_reducible rfl)
      (try simp only [Act.put, sA, sB, sC])
      refine wpAnyH_take (i := 3) (oi := ?oi32) (v := ?v32) ?hi32 (by kernel_rfl) (by kernel_rfl) (by kernel_rfl) ?hQ32 (Or.inl ⟨?hw32, ?hy32⟩) (by assumption) ?rest32
      case hi32 => (simp only [gA, gB, gC]; rfl)
      case hQ32 => exact fun _ _ _ h => h
      case hw32 => rfl
      case hy32 => (intro w hSw; (try dsimp only at hSw); go_simp; try with_reducible rfl)
      (try simp only [Act.put, sA, sB, sC])
      refine wpAnyH_take (i := 4) (oi := ?oi33) (v := ?v33) ?hi33 (by kernel_rfl) (by kernel_rfl) (by kernel_rfl) ?hQ33 (Or.inl ⟨?hw33, ?hy33⟩) (by assumption) ?rest33
      case hi33 => (simp only [gA, gB, gC]; rfl)
      case hQ33 => exact fun _ _ _ h => h
      case hw33 => rfl
      case hy33 => (intro w hSw; (try dsimp only at hSw); go_simp; try with_reducible rfl)
      (try simp only [Act.put, sA, sB, sC])
      refine wpAnyH_take (i := 5) (oi := ?oi34) (v := ?v34) ?hi34 (by kernel_rfl) (by kernel_rfl) (by kernel_rfl) ?hQ34 (Or.inl ⟨?hw34, ?hy34⟩) (by assumption) ?rest34
      case hi34 => (simp only [gA, gB, gC]; rfl)
      case hQ34 => exact fun _ _ _ h => h
      case hw34 => rfl
      case hy34 => (intro w hSw; (try dsimp only at hSw); go_simp; try with_reducible rfl)
      (try simp only [Act.put, sA, sB, sC])
      refine wpAnyH_ready (rs := [2]) (by kernel_rfl) (by simp) ?_
      refine AllReadyH.cons (o := ?o35) ?ho35 (fun K hK => ?st35) AllReadyH.nil
      case ho35 => (simp only [gA, gB, gC]; rfl)
      go_simp
      refine (HK.out _).mono ?_; rintro e wK ⟨rfl, rfl⟩
      refine hK.out _ _ ?_ (fun hHeld => ?_)
      · (try dsimp only); (first | assumption | exact HKP.out _ _ (by assumption) hbA)
      clear hK K
      (try simp only [Act.put, sA, sB, sC])
      refine wpAnyH_take (i := 6) (oi := ?oi36) (v := ?v36) ?hi36 (by kernel_rfl) (by kernel_rfl) (by kernel_rfl) ?hQ36 (Or.inl ⟨?hw36, ?hy36⟩) (by assumption) ?rest36
      case hi36 => (simp only [gA, gB, gC]; rfl)
      case hQ36 => exact fun _ _ _ h => h
      case hw36 => rfl
      case hy36 => (intro w hSw; (try dsimp only at hSw); go_simp; try with_reducible rfl)
      (try simp only [Act.put, sA, sB, sC])
      refine wpAnyH_take (i := 7) (oi := ?oi37) (v := ?v37) ?hi37 (by kernel_rfl) (by kernel_rfl) (by kernel_rfl) ?hQ37 (Or.inl ⟨?hw37, ?hy37⟩) (by assumption) ?rest37
      case hi37 => (simp only [gA, gB, gC]; rfl)
      case hQ37 => exact fun _ _ _ h => h
      case hw37 => rfl
      case hy37 => (intro w hSw; (try dsimp only at hSw); go_simp; try with_reducible rfl)
      (try simp only [Act.put, sA, sB, sC])
      refine wpAnyH_take (i := 8) (oi := ?oi38) (v := ?v38) ?hi38 (by kernel_rfl) (by kernel_rfl) (by kernel_rfl) ?hQ38 (Or.inl ⟨?hw38, ?hy38⟩) (by assumption) ?rest38
      case hi38 => (simp only [gA, gB, gC]; rfl)
      case hQ38 => exact fun _ _ _ h => h
      case hw38 => rfl
      case hy38 => (intro w hSw; (try dsimp only at hSw); go_simp; try with_reducible rfl)
      (try simp only [Act.put, sA, sB, sC])
      refine wpAnyH_take (i := 9) (oi := ?oi39) (v := ?v39) ?hi39 (by kernel_rfl) (by kernel_rfl) (by kernel_rfl) ?hQ39 (Or.inl ⟨?hw39, ?hy39⟩) (by assumption) ?rest39
      case hi39 => (simp only [gA, gB, gC]; rfl)
      case hQ39 => exact fun _ _ _ h => h
      case hw39 => rfl
      case hy39 => (intro w hSw; (try dsimp only at hSw); go_simp; try with_reducible rfl)
      (try simp only [Act.put, sA, sB, sC])
      refine wpAnyH_take (i := 10) (oi := ?oi40) (v := ?v40) ?hi40 (by kernel_rfl) (by kernel_rfl) (by kernel_rfl) ?hQ40 (Or.inl ⟨?hw40, ?hy40⟩) (by assumption) ?rest40
      case hi40 => (simp only [gA, gB, gC]; rfl)
      case hQ40 => exact fun _ _ _ h => h
      case hw40 => rfl
      case hy40 => (intro w hSw; (try dsimp only at hSw); go_simp; try with_reducible rfl)
      (try simp only [Act.put, sA, sB, sC])
      refine wpAnyH_take (i := 11) (oi := ?oi41) (v := ?v41) ?hi41 (by kernel_rfl) (by kernel_rfl) (by kernel_rfl) ?hQ41 (Or.inl ⟨?hw41, ?hy41⟩) (by assumption) ?rest41
      case hi41 => (simp only [gA, gB, gC]; rfl)
      case hQ41 => exact fun _ _ _ h => h
      case hw41 => rfl
      case hy41 => (intro w hSw; (try dsimp only at hSw); go_simp; try with_reducible rfl)
      (try simp only [Act.put, sA, sB, sC])
      refine wpAnyH_take (i := 12) (oi := ?oi42) (v := undef) ?hi42 (by kernel_rfl) (by kernel_rfl) (by kernel_rfl) ?hQ42 (Or.inr ⟨?hw42, rfl⟩) (by assumption) ?rest42
      case hi42 => (simp only [gA, gB, gC]; rfl)
      case hQ42 => exact fun _ _ _ h => h
      case hw42 => rfl
      (try simp only [Act.put, sA, sB, sC])
      refine wpAnyH_take (i := 13) (oi := ?oi43) (v := undef) ?hi43 (by kernel_rfl) (by kernel_rfl) (by kernel_rfl) ?hQ43 (Or.inr ⟨?hw43, rfl⟩) (by assumption) ?rest43
      case hi43 => (simp only [gA, gB, gC]; rfl)
      case hQ43 => exact fun _ _ _ h => h
      case hw43 => rfl
      (try simp only [Act.put, sA, sB, sC])
      refine wpAnyH_take (i := 14) (oi := ?oi44) (v := undef) ?hi44 (by kernel_rfl) (by kernel_rfl) (by kernel_rfl) ?hQ44 (Or.inr ⟨?hw44, rfl⟩) (by assumption) ?rest44
      case hi44 => (simp only [gA, gB, gC]; rfl)
      case hQ44 => exact fun _ _ _ h => h
      case hw44 => rfl
      (try simp only [Act.put, sA, sB, sC])
      refine wpAnyH_take (i := 15) (oi := ?oi45) (v := ?v45) ?hi45 (by kernel_rfl) (by kernel_rfl) (by kernel_rfl) ?hQ45 (Or.inl ⟨?hw45, ?hy45⟩) (by assumption) ?rest45
      case hi45 => (simp only [gA, gB, gC]; rfl)
      case hQ45 => exact fun _ _ _ h => h
      case hw45 => rfl
      case hy45 => (intro w hSw; (try dsimp only at hSw); go_simp; try with_reducible rfl)
      (try simp only [Act.put, sA, sB, sC])
      refine wpAnyH_take (i := 16) (oi := ?oi46) (v := ?v46) ?hi46 (by kernel_rfl) (by kernel_rfl) (by kernel_rfl) ?hQ46 (Or.inl ⟨?hw46, ?hy46⟩) (by assumption) ?rest46
      case hi46 => (simp only [gA, gB, gC]; rfl)
      case hQ46 => exact fun _ _ _ h => h
      case hw46 => rfl
      case hy46 => (intro w hSw; (try dsimp only at hSw); go_simp; try with_reducible rfl)
      (try simp only [Act.put, sA, sB, sC])
      refine wpAnyH_take (i := 17) (oi := ?oi47) (v := ?v47) ?hi47 (by kernel_rfl) (by kernel_rfl) (by kernel_rfl) ?hQ47 (Or.inl ⟨?hw47, ?hy47⟩) (by assumption) ?rest47
      case hi47 => (simp only [gA, gB, gC]; rfl)
      case hQ47 => exact fun _ _ _ h => h
      case hw47 => rfl
      case hy47 => (intro w hSw; (try dsimp only at hSw); go_simp; try with_reducible rfl)
      (try simp only [Act.put, sA, sB, sC])
      refine wpAnyH_take (i := 18) (oi := ?oi48) (v := ?v48) ?hi48 (by kernel_rfl) (by kernel_rfl) (by kernel_rfl) ?hQ48 (Or.inl ⟨?hw48, ?hy48⟩) (by assumption) ?rest48
      case hi48 => (simp only [gA, gB, gC]; rfl)
      case hQ48 => exact fun _ _ _ h => h
      case hw48 => rfl
      case hy48 => (intro w hSw; (try dsimp only at hSw); go_simp; try with_reducible rfl)
      (try simp only [Act.put, sA, sB, sC])
      refine wpAnyH_take (i := 19) (oi := ?oi49) (v := ?v49) ?hi49 (by kernel_rfl) (by kernel_rfl) (by kernel_rfl) ?hQ49 (Or.inl ⟨?hw49, ?hy49⟩) (by assumption) ?rest49
      case hi49 => (simp only [gA, gB, gC]; rfl)
      case hQ49 => exact fun _ _ _ h => h
      case hw49 => rfl
      case hy49 => (intro w hSw; (try dsimp only at hSw); go_simp; try with_reducible rfl)
      (try simp only [Act.put, sA, sB, sC])
      refine wpAnyH_take (i := 20) (oi := ?oi50) (v := ?v50) ?hi50 (by kernel_rfl) (by kernel_rfl) (by kernel_rfl) ?hQ50 (Or.inl ⟨?hw50, ?hy50⟩) (by assumption) ?rest50
      case hi50 => (simp only [gA, gB, gC]; rfl)
      case hQ50 => exact fun _ _ _ h => h
      case hw50 => rfl
      case hy50 => (intro w hSw; (try dsimp only at hSw); go_simp; try with_reducible rfl)
      (try simp only [Act.put, sA, sB, sC])
      refine wpAnyH_take (i := 21) (oi := ?oi51) (v := ?v51) ?hi51 (by kernel_rfl) (by kernel_rfl) (by kernel_rfl) ?hQ51 (Or.inl ⟨?hw51, ?hy51⟩) (by assumption) ?rest51
      case hi51 => (simp only [gA, gB, gC]; rfl)
      case hQ51 => exact fun _ _ _ h => h
      case hw51 => rfl
      case hy51 => (intro w hSw; (try dsimp only at hSw); go_simp; try with_reducible rfl)
      (try simp only [Act.put, sA, sB, sC])
      refine wpAnyH_take (i := 22) (oi := ?oi52) (v := ?v52) ?hi52 (by kernel_rfl) (by kernel_rfl) (by kernel_rfl) ?hQ52 (Or.inl ⟨?hw52, ?hy52⟩) (by assumption) ?rest52
      case hi52 => (simp only [gA, gB, gC]; rfl)
      case hQ52 => exact fun _ _ _ h => h
      case hw52 => rfl
      case hy52 => (intro w hSw; (try dsimp only at hSw); go_simp; try with_reducible rfl)
      (try simp only [Act.put, sA, sB, sC])
      refine wpAnyH_take (i := 23) (oi := ?oi53) (v := ?v53) ?hi53 (by kernel_rfl) (by kernel_rfl) (by kernel_rfl) ?hQ53 (Or.inl ⟨?hw53, ?hy53⟩) (by assumption) ?rest53
      case hi53 => (simp only [gA, gB, gC]; rfl)
      case hQ53 => exact fun _ _ _ h => h
      case hw53 => rfl
      case hy53 => (intro w hSw; (try dsimp only at hSw); go_simp; try with_reducible rfl)
      (try simp only [Act.put, sA, sB, sC])
      refine wpAnyH_take (i := 24) (oi := ?oi54) (v := ?v54) ?hi54 (by kernel_rfl) (by kernel_rfl) (by kernel_rfl) ?hQ54 (Or.inl ⟨?hw54, ?hy54⟩) (by assumption) ?rest54
      case hi54 => (simp only [gA, gB, gC]; rfl)
      case hQ54 => exact fun _ _ _ h => h
      case hw54 => rfl
      case hy54 => (intro w hSw; (try dsimp only at hSw); go_simp; try with_reducible rfl)
      (try simp only [Act.put, sA, sB, sC])
      refine wpAnyH_ready (rs := [25]) (by kernel_rfl) (by simp) ?_
      refine AllReadyH.cons (o := ?o55) ?ho55 (fun K hK => ?st55) AllReadyH.nil
      case ho55 => (simp only [gA, gB, gC]; rfl)
      go_simp
      refine (HS.out _).mono ?_; rintro e wA ⟨rfl, hbA⟩
      refine hK.out _ _ ?_ (fun hHeld => ?_)
      · (try dsimp only); (first | assumption | exact HKP.out _ _ (by assumption) hbA)
      clear hK K
      (try simp only [Act.put, sA, sB, sC])
      refine wpAnyH_take (i := 26) (oi := ?oi56) (v := ?v56) ?hi56 (by kernel_rfl) (by kernel_rfl) (by kernel_rfl) ?hQ56 (Or.inl ⟨?hw56, ?hy56⟩) (by assumption) ?rest56
      case hi56 => (simp only [gA, gB, gC]; rfl)
      case hQ56 => exact fun _ _ _ h => h
      case hw56 => rfl
      case hy56 => (intro w hSw; (try dsimp only at hSw); go_simp; try with_reducible rfl)
      (try simp only [Act.put, sA, sB, sC])
      refine wpAnyH_take (i := 27) (oi := ?oi57) (v := ?v57) ?hi57 (by kernel_rfl) (by kernel_rfl) (by kernel_rfl) ?hQ57 (Or.inl ⟨?hw57, ?hy57⟩) (by assumption) ?rest57
      case hi57 => (simp only [gA, gB, gC]; rfl)
      case hQ57 => exact fun _ _ _ h => h
      case hw57 => rfl
      case hy57 => (intro w hSw; (try dsimp only at hSw); go_simp; try with_reducible rfl)
      (try simp only [Act.put, sA, sB, sC])
      refine wpAnyH_take (i := 28) (oi := ?oi58) (v := ?v58) ?hi58 (by kernel_rfl) (by kernel_rfl) (by kernel_rfl) ?hQ58 (Or.inl ⟨?hw58, ?hy58⟩) (by assumption) ?rest58
      case hi58 => (simp only [gA, gB, gC]; rfl)
      case hQ58 => exact fun _ _ _ h => h
      case hw58 => rfl
      case hy58 => (intro w hSw; (try dsimp only at hSw); go_simp; try with_reducible rfl)
      (try simp only [Act.put, sA, sB, sC])
      refine wpAnyH_done (by kernel_rfl) ?_ _
      go_wp2
      go_ret
      exact ⟨rfl, (And.left hHeld)⟩
end Go.Proofs.YthgdnpcfdgimlabGreat

/- Layer 5: is an expression small, by the program. -/
namespace Go.Proofs.YthgdnpcfdgimlabGreat
open Go.RowKit
set_option linter.unusedVariables false
set_option linter.unusedSimpArgs false
set_option maxRecDepth 20000

theorem leftL_drop (f : Ex → Int → Int) (ks : List Ex) (k : Nat) (hk : k < ks.length) (n : Int) (hn : 0 ≤ n) : leftL f (ks.drop k) n = leftL f (ks.drop (k + 1)) (f ks[k] n) := by
  rw [List.drop_eq_getElem_cons hk, leftL, if_neg (by omega)]

theorem leftF_le : ∀ (d : Nat) (e : Ex) (n : Int), leftF d e n ≤ n ∨ leftF d e n < 0
  | 0, e, n => .inr (show (-1 : Int) < 0 by decide)
  | d + 1, e, n => by
    by_cases h : 0 ≤ leftF (d + 1) e n
    · have := (leftF_spec _ _ _ h).2; omega
    · omega
/-- the count of parts at block g -/
def Sz (w : World) (g : Nat) (n : Int) : Prop := w.cell? ⟨g, 0, none⟩ = some (.int .i64 n) ∧ w.frozen? ⟨g, 0, none⟩ = false ∧ g < w.heap.size
theorem Sz.below {w w' : World} {g : Nat} {n : Int} {B : Nat} (h : Sz w g n) (hb : Below B w w') (hl : g < B) : Sz w' g n :=
  ⟨(hb.cell (p := ⟨g, 0, none⟩) hl).trans h.1, (World.frozen?_of_block (hb.block g hl)).trans h.2.1, Nat.lt_of_lt_of_le h.2.2 hb.size⟩

theorem Sz.set {w : World} {g : Nat} {n : Int} (h : Sz w g n) (m : Int) : Sz (w.setCell ⟨g, 0, none⟩ (.int .i64 m)) g m :=
  ⟨World.cell?_setCell_same w _ _ h.1, (World.frozen?_setCell _ _ _ _).trans h.2.1, by simpa [World.setCell] using h.2.2⟩
theorem Sz.only {w w' : World} {g h : Nat} {n : Int} (hs : Sz w g n) (ho : Only h w w') (hne : g ≠ h) : Sz w' g n := by
  have hb := ho.block g hs.2.2 (by intro e; injection e with e; exact hne e)
  exact ⟨(World.cell?_of_block (a := ⟨g, 0, none⟩) hb).trans hs.1, (World.frozen?_of_block (a := ⟨g, 0, none⟩) hb).trans hs.2.1, Nat.lt_of_lt_of_le hs.2.2 ho.size⟩

/-- grow -/
def GrowP (g : Nat) (n : Int) (r : Bool) (w : World) (e : Ending) (w' : World) : Prop := e = .returned (.bool r) ∧ Sz w' g (n + 1) ∧ Only g w w'
theorem grow_any (g : Nat) (n deep : Int) (w : World) (h : Sz w g n) (h0 : 0 ≤ n) (h1 : n ≤ 24) : Calls Tryz.prog 192 #[.pointer (some ⟨g, 0, none⟩), .int .i64 deep] w (GrowP g n (decide (n + 1 ≤ 24) && decide (deep ≤ 6)) w) := by
  have hw : IntKind.i64.wrap (n + 1) = n + 1 := by rw [IntKind.wrap_i64]; omega
  have hset := h.set (n + 1)
  obtain ⟨hc, hf, hl⟩ := h
  rw [← hw] at hset
  have HS := Lib.hid hset
  clear hset
  by_cases hn : n + 1 ≤ 24
  · have hr : (decide (n + 1 ≤ 24) && decide (deep ≤ 6)) = decide (deep ≤ 6) := by simp [hn]
    rw [hr]
    go_enter Tryz.func192, Tryz.ntmps192
    go_wp2
    go_ret
    exact ⟨rfl, by have := HS.out; rw [hw] at this; exact this, (Only.refl _ _).set _ _⟩
  · have hr : (decide (n + 1 ≤ 24) && decide (deep ≤ 6)) = false := by simp; intro h; omega
    rw [hr]
    go_enter Tryz.func192, Tryz.ntmps192
    go_wp2
    go_ret
    exact ⟨rfl, by have := HS.out; rw [hw] at this; exact this, (Only.refl _ _).set _ _⟩

/-- holds: the count has come from 24 - n to 24 - leftF d e n -/
def HoldP (g : Nat) (m : Int) (w : World) (e : Ending) (w' : World) : Prop := e = .returned (.bool (decide (0 ≤ m))) ∧ (0 ≤ m → Sz w' g (24 - m)) ∧ Only g w w'
set_option maxHeartbeats 2000000 in
theorem holds_any (w0 : World) (g : Nat) (hg : w0.heap.size ≤ g) : ∀ (D : Nat) (d : Nat) (e : Ex) (A : Option Addr) (c : Nat) (n deep : Int) (w : World), d ≤ 6 → deep = 7 - d → 0 ≤ n → n ≤ 24 → ExK w0 D A c e → Below w0.heap.size w0 w → Sz w g (24 - n) →
    Calls Tryz.prog 153 #[.pointer (some ⟨g, 0, none⟩), agX e.op A e.kids.length c e.name e.val, .int .i64 deep] w (HoldP g (leftF d e n) w)
  | 0, _, _, _, _, _, _, _, _, _, _, _, h, _, _ => False.elim h
  | D + 1, d, e, A, c, n, deep, w, hd, hdeep, h0, h1, hx, hb, hs => by
    obtain ⟨h2, h3, h4, h5⟩ := hx
    have ih := holds_any w0 g hg D
    unfold maxLen at h3
    have hlen : e.kids.length ≤ 9223372036854775807 := by omega
    have hgr : ∀ W, Sz W g (24 - n) → Calls Tryz.prog 192 #[.pointer (some ⟨g, 0, none⟩), .int .i64 deep] W (GrowP g (24 - n) (decide (24 - n + 1 ≤ 24) && decide (deep ≤ 6)) W) := fun W h => grow_any g (24 - n) deep W h (by omega) (by omega)
    have hsb : ∀ o, Sz (w.alloc o) g (24 - n) := fun o => hs.below ((Below.refl _ _).alloc (Nat.le_refl _) _) hs.2.2
    have HSB := Lib.hid hsb
    have hgl := hs.2.2
    by_cases hbad : n = 0 ∨ d = 0
    · have hr : (decide (24 - n + 1 ≤ 24) && decide (deep ≤ 6)) = false := by
        rcases hbad with h | h
        · subst h; simp
        · subst h; simp; omega
      have hm : leftF d e n < 0 := by
        rcases hbad with h | h
        · exact leftF_neg d e n (by omega)
        · subst h; show (-1 : Int) < 0; decide
      rw [hr] at hgr
      have HGR := Lib.hid hgr
      have HM := Lib.hid hm
      clear hgr hm hr ih h5 hsb hs hbad hdeep hd h3
      go_enter Tryz.func153, Tryz.ntmps153
      go_wp2_with (go_at_call 192; refine (HGR.out _ (HSB.out _)).mono ?_; rintro e w1 ⟨rfl, hz1, ho1⟩)
      go_ret
      exact ⟨ret_bool (by have := HM.out; simp; omega), fun h => absurd h (by have := HM.out; omega), (((Only.refl _ _).below ((Below.refl _ _).alloc (Nat.le_refl _) _))).trans ho1⟩
    · have hr : (decide (24 - n + 1 ≤ 24) && decide (deep ≤ 6)) = true := by
        simp; omega
      rw [hr] at hgr
      obtain ⟨d', rfl⟩ : ∃ d', d = d' + 1 := ⟨d - 1, by omega⟩
      have hm : leftF (d' + 1) e n = leftL (leftF d') e.kids (n - 1) := rfl
      have hwd : IntKind.i64.wrap (deep + 1) = deep + 1 := by rw [IntKind.wrap_i64]; omega
      rw [hm]
      have HGR := Lib.hid hgr
      have HIH := Lib.hid (fun e A c n W (hx : ExK w0 D A c e) (hn : 0 ≤ n) (hn4 : n ≤ 24) (hB : Below w0.heap.size w0 W) (hS : Sz W g (24 - n)) => ih d' e A c n (deep + 1) W (by omega) (by omega) hn hn4 hx hB hS)
      have H5 := Lib.hid h5
      have HB := Lib.hid hb
      clear hgr hm hr ih h5 hsb hs hb
      obtain ⟨eop, enm, ev, ks⟩ := e
      simp only [Ex.kids, Ex.op, Ex.name, Ex.val] at *
      have HD := Lib.hid (And.intro hd hdeep)
      have hsf := fun (w : World) (a : Addr) (m : Mode) (b : Nat) => run_store Tryz.prog w a (.float .f64 b) m rfl
      clear hd hdeep
      go_enter Tryz.func153, Tryz.ntmps153
      go_wp2_with (go_at_call 192; refine (HGR.out _ (HSB.out _)).mono ?_; rintro e w1 ⟨rfl, hz1, ho1⟩; obtain ⟨hc1, hf1⟩ := onlyc (b := w.heap.size) ho1 (by simp) (by omega))
      go_loopw [16] (fun i wr => ∃ (k : Nat) (m : Int), k ≤ ks.length ∧ i = .int .i64 k ∧ leftL (leftF d') (ks.drop k) m = leftL (leftF d') ks (n - 1) ∧ 0 ≤ m ∧ m ≤ 24 ∧ Sz wr g (24 - m) ∧ Only g w wr) (fun i _ => ks.length - (intOf i).toNat)
      case atStart => exact ⟨0, n - 1, Nat.zero_le _, rfl, rfl, by have := hbad; omega, by omega, by rw [show 24 - (n - 1) = 24 - n + 1 by omega]; exact hz1, ((Only.refl _ _).below ((Below.refl _ _).alloc (Nat.le_refl _) _)).trans ho1⟩
      case round =>
        obtain ⟨k, m, hk, rfl, hm, hm0, hm4, hz, ho⟩ := hrel
        by_cases hlt : k < ks.length
        · obtain ⟨ad, A', c', rfl, hbl, hkid, hsub⟩ := H5.out k hlt
          have hB : Below w0.heap.size w0 wr := HB.out.trans (ho.to_below HB.out.size hg)
          obtain ⟨q0, q1, q2, q3, q4, q5, q6, q7⟩ := hkid.below hB (by rw [block_add]; exact hbl)
          have hcall := fun o => HIH.out ks[k] A' c' m (wr.alloc o) hsub hm0 hm4 (hB.trans ((Below.refl _ _).alloc hB.size _)) (hz.below ((Below.refl _ _).alloc (Nat.le_refl _) _) hz.2.2)
          have hdr := leftL_drop (leftF d') ks k hlt m hm0
          have hle := leftF_le d' ks[k] m
          rw [hdr] at hm
          generalize leftF d' ks[k] m = m' at hcall hm hle
          generalize ks[k].op = ko at q0 hcall
          generalize ks[k].name = kn at q2 hcall
          generalize ks[k].val = ky at q3 q4 q5 q6 q7 hcall
          generalize ks[k].kids.length = kl at q1 hcall
          have HC := Lib.hid hcall
          have HM := Lib.hid hm
          have HO := Lib.hid ho
          clear hcall hm hdr hkid hsub hB hm0 hz hz1 ho1 ho
          by_cases hp : 0 ≤ m'
          · have hpd : decide (0 ≤ m') = true := by simpa using hp
            go_wp2_with (go_at_call 153; refine (HC.out _).mono ?_; rintro e w2 ⟨rfl, hz2, ho2⟩)
            go_roundw
            case rel => exact ⟨k + 1, m', by omega, by go_num, HM.out, hp, by have := hle; omega, hz2 hp, (HO.out.below ((Below.refl _ _).alloc (Nat.le_refl _) _)).trans ho2⟩
            case measure => simp [intOf]; omega
          · have hpd : decide (0 ≤ m') = false := by simpa using hp
            go_wp2_with (go_at_call 153; refine (HC.out _).mono ?_; rintro e w2 ⟨rfl, hz2, ho2⟩)
            go_ret
            exact ⟨ret_bool (by have := HM.out; rw [← this, leftL_neg _ _ _ (by omega)]; simpa using hp), fun h => absurd h (by have := HM.out; rw [← this, leftL_neg _ _ _ (by omega)]; omega), (HO.out.below ((Below.refl _ _).alloc (Nat.le_refl _) _)).trans ho2⟩
        · obtain rfl : k = ks.length := by omega
          have HM := Lib.hid hm
          clear hm
          have hmm : m = leftL (leftF d') ks (n - 1) := by have := HM.out; rw [List.drop_length] at this; exact this
          have HMM := Lib.hid hmm
          clear hmm
          go_wp2
          go_ret
          exact ⟨ret_bool (by rw [← HMM.out]; simpa using hm0), fun _ => by rw [← HMM.out]; exact hz, ho⟩
/-- small -/
theorem small_any (D : Nat) (e : Ex) (A : Option Addr) (c : Nat) (w : World) (hx : ExK w D A c e) : Calls Tryz.prog 112 #[agX e.op A e.kids.length c e.name e.val] w (VMk (.bool (smallX e)) w) := by
  have hcall : ∀ o, Calls Tryz.prog 153 #[.pointer (some ⟨w.heap.size + 1, 0, none⟩), agX e.op A e.kids.length c e.name e.val, .int .i64 1] ((w.alloc o).alloc (.cells #[.int .i64 0] 170)) (HoldP (w.heap.size + 1) (leftF 6 e 24) ((w.alloc o).alloc (.cells #[.int .i64 0] 170))) := fun o => by
    have hn := heap_alloc_new (w.alloc o) (.cells #[.int .i64 0] 170)
    have hs : (w.alloc o).heap.size = w.heap.size + 1 := by simp
    rw [hs] at hn
    refine holds_any w (w.heap.size + 1) (by omega) D 6 e A c 24 1 _ (by omega) (by decide) (by decide) (by decide) hx (vbox2 w _ _) ⟨(cell_of_row _ _ 0 _ _ (0, 0) hn).trans rfl, by unfold World.frozen?; simp only [hn]; rfl, by simp⟩
  have HC := Lib.hid hcall
  have hsm : decide (0 ≤ leftF 6 e 24) = smallX e := rfl
  rw [← hsm]
  clear hcall hsm hx
  generalize leftF 6 e 24 = m at *
  obtain ⟨eop, enm, ev, ks⟩ := e
  simp only [Ex.kids, Ex.op, Ex.name, Ex.val] at *
  go_enter Tryz.func112, Tryz.ntmps112
  go_wp2_with (go_at_call 153; refine (HC.out _).mono ?_; rintro e w2 ⟨rfl, hz2, ho2⟩)
  go_ret
  exact ⟨rfl, (vbox2 w _ _).trans (ho2.to_below (by simp; omega) (by omega))⟩
end Go.Proofs.YthgdnpcfdgimlabGreat

/- Layer 5: Check, by the program. -/
namespace Go.Proofs.YthgdnpcfdgimlabGreat
open Go.RowKit
set_option linter.unusedVariables false
set_option linter.unusedSimpArgs false
set_option maxRecDepth 20000

/-! by definition -/
def kindL (op : Int) (l : List Int) : Int × Bool := kindT op (l.getD 0 0) (l.getD 1 0) (l.getD (l.length - 1) 0)
theorem formB_iff (e : Ex) : formB e = true ↔ ¬ (kidsN e.op ≠ e.kids.length ∨ (e.op ≠ 2 ∧ e.name.toList ≠ []) ∨ (e.op ≠ 1 ∧ sameV e.val ⟨0, 0, false, ⟨#[]⟩, 0⟩ = false)) := by
  have hz : vZero = ⟨0, 0, false, ⟨#[]⟩, 0⟩ := rfl
  unfold formB
  rw [hz, Bool.and_eq_true, Bool.and_eq_true, Bool.or_eq_true, Bool.or_eq_true, beq_iff_eq, beq_iff_eq, beq_iff_eq, beq_iff_eq]
  generalize sameV e.val ⟨0, 0, false, ⟨#[]⟩, 0⟩ = b
  by_cases h1 : kidsN e.op = e.kids.length <;> by_cases h2 : e.op = 2 <;> by_cases h3 : e.name.toList = [] <;> by_cases h4 : e.op = 1 <;> cases b <;> simp [h1, h2, h3, h4]
theorem kindX_bad (e : Ex) (l : List Int) (fs : List Fd) (h : formB e = false) : kindX e l fs = (0, 1) := by
  have h2 : ¬ formB e = true := by rw [h]; decide
  rw [formB_iff, Classical.not_not] at h2
  unfold kindX
  exact if_pos h2
theorem kindX_const (e : Ex) (l : List Int) (fs : List Fd) (h : formB e = true) (h1 : e.op = 1) : kindX e l fs = constX e.val := by
  rw [formB_iff] at h
  unfold kindX
  rw [if_neg h, if_pos h1]
  rfl
theorem kindX_field (e : Ex) (l : List Int) (fs : List Fd) (h : formB e = true) (h1 : e.op = 2) : kindX e l fs = fieldX e.name fs := by
  rw [formB_iff] at h
  unfold kindX
  rw [if_neg h, if_neg (by omega), if_pos h1]
  rfl
theorem formB_kids (e : Ex) (h : formB e = true) : kidsN e.op = e.kids.length := by
  rw [formB_iff] at h
  exact Classical.byContradiction fun h2 => h (.inl h2)
theorem kindX_op (e : Ex) (l : List Int) (fs : List Fd) (h : formB e = true) (h1 : e.op ≠ 1) (h2 : e.op ≠ 2) (hl : l.length = e.kids.length) : kindX e l fs = if (kindL e.op l).2 = true then ((kindL e.op l).1, 0) else (0, 40) := by
  have hk := formB_kids e h
  rw [formB_iff] at h
  unfold kindX
  rw [if_neg h, if_neg h1, if_neg h2]
  clear h
  rw [← hl] at hk
  generalize e.op = op at *
  have one : kidsN op = 1 → ∃ a, l = [a] := fun h => by
    match l, hk with
    | [a], _ => exact ⟨a, rfl⟩
    | [], hk => rw [h] at hk; simp at hk
    | a :: b :: l, hk => rw [h] at hk; simp at hk; omega
  have two : kidsN op = 2 → ∃ a b, l = [a, b] := fun h => by
    match l, hk with
    | [a, b], _ => exact ⟨a, b, rfl⟩
    | [], hk => rw [h] at hk; simp at hk
    | [a], hk => rw [h] at hk; simp at hk
    | a :: b :: c :: l, hk => rw [h] at hk; simp at hk; omega
  have three : kidsN op = 3 → ∃ a b c, l = [a, b, c] := fun h => by
    match l, hk with
    | [a, b, c], _ => exact ⟨a, b, c, rfl⟩
    | [], hk => rw [h] at hk; simp at hk
    | [a], hk => rw [h] at hk; simp at hk
    | [a, b], hk => rw [h] at hk; simp at hk
    | a :: b :: c :: d :: l, hk => rw [h] at hk; simp at hk; omega
  by_cases h3 : op = 3
  · subst h3
    obtain ⟨a, rfl⟩ := one rfl
    simp [kindL, kindT]
  by_cases h12 : op = 12
  · subst h12
    obtain ⟨a, rfl⟩ := one rfl
    simp [kindL, kindT]
  by_cases h16 : op = 16
  · subst h16
    obtain ⟨a, rfl⟩ := one rfl
    simp [kindL, kindT]
  by_cases h4 : op = 4
  · subst h4
    obtain ⟨a, b, rfl⟩ := two rfl
    simp [kindL, kindT]
  by_cases h5 : op = 5
  · subst h5
    obtain ⟨a, b, rfl⟩ := two rfl
    simp [kindL, kindT]
  by_cases h6 : op = 6
  · subst h6
    obtain ⟨a, b, rfl⟩ := two rfl
    simp [kindL, kindT]
  by_cases h7 : op = 7
  · subst h7
    obtain ⟨a, b, rfl⟩ := two rfl
    simp [kindL, kindT]
  by_cases h14 : op = 14
  · subst h14
    obtain ⟨a, b, rfl⟩ := two rfl
    simp [kindL, kindT]
  by_cases h15 : op = 15
  · subst h15
    obtain ⟨a, b, rfl⟩ := two rfl
    simp [kindL, kindT]
  by_cases h8 : op = 8
  · subst h8
    obtain ⟨a, b, rfl⟩ := two rfl
    simp [kindL, kindT]
  by_cases h9 : op = 9
  · subst h9
    obtain ⟨a, b, rfl⟩ := two rfl
    simp [kindL, kindT, or_assoc, or_comm, or_left_comm]
  by_cases h10 : op = 10
  · subst h10
    obtain ⟨a, b, rfl⟩ := two rfl
    simp [kindL, kindT]
  by_cases h11 : op = 11
  · subst h11
    obtain ⟨a, b, rfl⟩ := two rfl
    simp [kindL, kindT]
  by_cases h13 : op = 13
  · subst h13
    obtain ⟨a, b, c, rfl⟩ := three rfl
    simp only [kindL, kindT]
    simp
    split <;> simp_all
  exfalso
  unfold kidsN at hk
  simp [*] at hk
/-- the kids' kinds, one by one -/
theorem chkL_good (f : Ex → Int × Int) : ∀ ks : List Ex, (∀ (j : Nat) (hj : j < ks.length), (f ks[j]).2 = 0) → chkL f ks = (ks.map fun k => (f k).1, 0)
  | [], _ => rfl
  | k :: ks, h => by
    have h0 := h 0 (by simp)
    rw [List.getElem_cons_zero] at h0
    rw [chkL, if_neg (by rw [h0]; decide), chkL_good f ks (fun j hj => h (j + 1) (by simpa using hj)), if_neg (fun h => h rfl)]
    rfl
theorem chkL_bad (f : Ex → Int × Int) : ∀ (ks : List Ex) (k : Nat) (hk : k < ks.length), (∀ (j : Nat) (hj : j < k), (f (ks[j]'(by omega))).2 = 0) → (f ks[k]).2 ≠ 0 → (chkL f ks).2 = (f ks[k]).2
  | [], k, hk, _, _ => absurd hk (Nat.not_lt_zero _)
  | x :: ks, 0, hk, h, hn => by rw [List.getElem_cons_zero] at hn ⊢; rw [chkL, if_pos hn]
  | x :: ks, k + 1, hk, h, hn => by
    have h0 := h 0 (by omega)
    rw [List.getElem_cons_zero] at h0
    rw [List.getElem_cons_succ] at hn ⊢
    have hr := chkL_bad f ks k (by simpa using hk) (fun j hj => by have := h (j + 1) (by omega); rwa [List.getElem_cons_succ] at this) hn
    rw [chkL, if_neg (by rw [h0]; decide), if_pos (by rw [hr]; exact hn), hr]
end Go.Proofs.YthgdnpcfdgimlabGreat

/- Layer 5: Check, by the program: the walk. -/
namespace Go.Proofs.YthgdnpcfdgimlabGreat
open Go.RowKit
set_option linter.unusedVariables false
set_option linter.unusedSimpArgs false
set_option maxRecDepth 20000

theorem eintinfo : (Tryz.prog.info? 3).map (fun i => (i.zero, i.size, i.bytes)) = some (some (.int .i64 0), 1, 8) := by kernel_rfl
theorem deepX_kid {d : Nat} {e : Ex} (hd : deepX d e) (hs : sizeX d e ≤ 24) : ∃ d', d = d' + 1 ∧ e.kids.length ≤ 23 ∧ ∀ (j : Nat) (hj : j < e.kids.length), deepX d' e.kids[j] ∧ sizeX d' e.kids[j] ≤ 24 := by
  cases d with
  | zero => exact False.elim hd
  | succ d =>
    refine ⟨d, rfl, ?_, fun j hj => ⟨hd _ (List.getElem_mem hj), ?_⟩⟩
    · have h1 : ∀ ks : List Ex, (∀ k ∈ ks, deepX d k) → ks.length ≤ (ks.map (sizeX d)).sum := by
        intro ks
        induction ks with
        | nil => intro _; exact Nat.le_refl _
        | cons k ks ih =>
          intro h
          have h0 := h k (List.mem_cons_self ..)
          have h2 := ih (fun x hx => h x (List.mem_cons_of_mem _ hx))
          rw [List.map_cons, List.sum_cons, List.length_cons]
          cases d with
          | zero => exact False.elim h0
          | succ d => have : 1 ≤ sizeX (d + 1) k := by unfold sizeX; omega
                      omega
      have := h1 e.kids hd
      unfold sizeX at hs
      omega
    · have h2 : ∀ (ks : List Ex) (j : Nat) (hj : j < ks.length), sizeX d ks[j] ≤ (ks.map (sizeX d)).sum := by
        intro ks
        induction ks with
        | nil => intro j hj; exact absurd hj (Nat.not_lt_zero _)
        | cons k ks ih =>
          intro j hj
          rw [List.map_cons, List.sum_cons]
          cases j with
          | zero => rw [List.getElem_cons_zero]; omega
          | succ j => have := ih j (by simpa using hj); rw [List.getElem_cons_succ]; omega
      have := h2 e.kids j hj
      unfold sizeX at hs
      omega
theorem kns_of (w : World) (g n : Nat) (t : TypeId) (kk : Nat → Int) (l : List Int) (hr : w.rowIs g t n (fun j => .int .i64 (kk j))) (hl : l.length = n) (h0 : 0 < n) (h24 : n ≤ 24) (hk : ∀ (j : Nat) (hj : j < l.length), kk j = l[j]) : Kns w ⟨g, 0, none⟩ n (l.getD 0 0) (l.getD 1 0) (l.getD (l.length - 1) 0) := by
  have hat : ∀ j, j < n → w.cell? ⟨g, j, none⟩ = some (.int .i64 (l.getD j 0)) := fun j hj => by
    rw [hr.cell hj, hk j (by omega), List.getD_eq_getElem?_getD, List.getElem?_eq_getElem (by omega)]; rfl
  refine ⟨h0, h24, hat 0 h0, ?_, fun h3 => ?_⟩
  · rw [Addr.add_lit, Nat.zero_add, hl]; exact hat _ (by omega)
  · exact hat 1 (by omega)
theorem CellsX.set_off {W : World} {b g : Nat} {op : Int} {A : Option Addr} {n c : Nat} {nm : ByteArray} {y : Vl} (h : CellsX W b op A n c nm y) (hne : b ≠ g) (j : Nat) (u : Value) : CellsX (W.setCell ⟨g, j, none⟩ u) b op A n c nm y := by
  have hk : ∀ o, (W.setCell ⟨g, j, none⟩ u).cell? ⟨b, o, none⟩ = W.cell? ⟨b, o, none⟩ := fun o => World.cell?_setCell_other W (a := ⟨g, j, none⟩) (b := ⟨b, o, none⟩) (v := u) (by intro e; injection e with e _ _; exact hne e.symm)
  unfold CellsX
  simp only [hk]
  exact h
set_option maxHeartbeats 4000000 in
theorem check_any (FA : Option Addr) (FC : Nat) (fs : List Fd) : ∀ (D d : Nat) (e : Ex) (A : Option Addr) (c : Nat) (w : World), ExK w D A c e → FdK w FA FC fs → deepX d e → sizeX d e ≤ 24 →
    Calls Tryz.prog 113 #[agX e.op A e.kids.length c e.name e.val, .slice FA fs.length FC] w (VMk (pairII (chkX d e fs)) w)
  | 0, _, _, _, _, _, h, _, _, _ => False.elim h
  | D + 1, d, e, A, c, w, hx, hf, hdeep, hsize => by
    obtain ⟨d, rfl, h23, hkids⟩ := deepX_kid hdeep hsize
    have ih := check_any FA FC fs D
    obtain ⟨h2, h3, h4, h5⟩ := hx
    have hsp0 := kindX_bad e (e.kids.map fun k => (chkX d k fs).1) fs
    have hsp1 := kindX_const e (e.kids.map fun k => (chkX d k fs).1) fs
    have hsp2 := kindX_field e (e.kids.map fun k => (chkX d k fs).1) fs
    have hsp3 := fun h h1 h2 => kindX_op e (e.kids.map fun k => (chkX d k fs).1) fs h h1 h2 (by simp)
    have hchk : chkX (d + 1) e fs = if (chkL (fun k => chkX d k fs) e.kids).2 ≠ 0 then (0, (chkL (fun k => chkX d k fs) e.kids).2) else kindX e (chkL (fun k => chkX d k fs) e.kids).1 fs := rfl
    have hgood := chkL_good (fun k => chkX d k fs) e.kids
    have hbad := chkL_bad (fun k => chkX d k fs) e.kids
    have hcall : ∀ (j : Nat) (hj : j < e.kids.length) A' c' W, ExK w D A' c' e.kids[j] → Below w.heap.size w W → Calls Tryz.prog 113 #[agX e.kids[j].op A' e.kids[j].kids.length c' e.kids[j].name e.kids[j].val, .slice FA fs.length FC] W (VMk (pairII (chkX d e.kids[j] fs)) W) :=
      fun j hj A' c' W hx hB => ih d e.kids[j] A' c' W (hx.below hB (Nat.le_refl _)) (hf.below hB (Nat.le_refl _)) (hkids j hj).1 (hkids j hj).2
    have hform := formed_any e.op e.name e.val e.kids.length c A
    have hfb : ((kidsN e.op == (e.kids.length : Int)) && ((e.op == 2 || (e.name.toList == [])) && (e.op == 1 || sameV e.val vZero))) = formB e := rfl
    rw [hfb] at hform
    clear hfb
    have hfk := formB_kids e
    have hfield : ∀ W, Below w.heap.size w W → Calls Tryz.prog 156 #[.string e.name, .slice FA fs.length FC] W (VMk (pairII (fieldX e.name fs)) W) := fun W hB => fieldKind_any e.name FA FC fs W (hf.below hB (Nat.le_refl _))
    have hconst := constKind_any e.val
    have hkind := fun g n c a m z W h hn h1 h2 => kindOf_any e.op g n c a m z W h hn h1 h2
    have hkt : ∀ l : List Int, kindT e.op (l.getD 0 0) (l.getD 1 0) (l.getD (l.length - 1) 0) = kindL e.op l := fun l => rfl
    generalize chkX (d + 1) e fs = RES at hchk ⊢
    generalize formB e = fb at hform hsp0 hsp1 hsp2 hsp3 hfk
    generalize constX e.val = cx at hconst hsp1
    generalize fieldX e.name fs = fx at hfield hsp2
    have hml : ∀ (j : Nat) (hj : j < (e.kids.map fun k => (chkX d k fs).1).length), (e.kids.map fun k => (chkX d k fs).1)[j] = (chkX d (e.kids[j]'(by simpa using hj)) fs).1 := fun j hj => by simp
    have hmn : (e.kids.map fun k => (chkX d k fs).1).length = e.kids.length := by simp
    clear ih hkids hsize hdeep
    generalize e.kids = ks at *
    generalize e.op = eop at *
    generalize e.name = enm at *
    generalize e.val = ev at *
    have hmk := fun (W : World) => run_make_row' (P := Tryz.prog) 67 3 (.int .i64 0) 8 Tryz.underlying67 eintinfo rfl .i64 .i64 ks.length (by omega) (by omega) W
    have hsf := fun (w : World) (a : Addr) (m : Mode) (b : Nat) => run_store Tryz.prog w a (.float .f64 b) m rfl
    have HCALL := Lib.hid hcall
    have HFORM := Lib.hid hform
    have HFIELD := Lib.hid hfield
    have HCONST := Lib.hid hconst
    have HKIND := Lib.hid hkind
    have HPURE := Lib.hid (And.intro hchk (And.intro hgood hbad))
    have HSP := Lib.hid (And.intro hsp0 (And.intro hsp1 (And.intro hsp2 (And.intro hsp3 hfk))))
    have HML := Lib.hid (And.intro hml (And.intro hmn hkt))
    have H5 := Lib.hid h5
    have H23 := Lib.hid h23
    clear hcall hform hfield hconst hkind hchk hgood hbad hsp0 hsp1 hsp2 hsp3 hfk hml hmn hkt h5 h23 hf h2 h3 h4
    go_enter Tryz.func113, Tryz.ntmps113
    go_wp2
    go_loopw [20] (fun i wr => ∃ (k : Nat) (kk : Nat → Int), k ≤ ks.length ∧ i = .int .i64 k ∧ (∀ (j : Nat) (hj : j < ks.length), j < k → (chkX d ks[j] fs).2 = 0 ∧ kk j = (chkX d ks[j] fs).1) ∧ wr.rowIs (w.heap.size + 1) 3 ks.length (fun j => .int .i64 (kk j)) ∧ Below w.heap.size w wr ∧ CellsX wr w.heap.size eop A ks.length c enm ev) (fun i _ => ks.length - (intOf i).toNat)
    case atStart =>
      refine ⟨0, fun _ => 0, Nat.zero_le _, rfl, fun j hj h => absurd h (Nat.not_lt_zero _), ?_, vbox2 w _ _, (Kid_new w eop A ks.length c enm ev).below ((Below.refl _ _).alloc (Nat.le_refl _) _)⟩
      have := World.rowIs_made (w.alloc (bxX eop A ks.length c enm ev)) (.int .i64 0) ks.length 3
      have hs : (w.alloc (bxX eop A ks.length c enm ev)).heap.size = w.heap.size + 1 := by simp
      rw [hs] at this
      exact this
    case round =>
      obtain ⟨k, kk, hk, rfl, hdone, hrow, hb, hbox⟩ := hrel
      have h23 := H23.out
      by_cases hlt : k < ks.length
      · obtain ⟨ad, A', c', rfl, hbl, hkid, hsub⟩ := H5.out k hlt
        obtain ⟨q0, q1, q2, q3, q4, q5, q6, q7⟩ := hkid.below hb (by rw [block_add]; exact hbl)
        have hcall := fun o => HCALL.out k hlt A' c' (wr.alloc o) hsub (hb.alloc hb.size o)
        have hall : (chkX d ks[k] fs).2 = 0 → ∀ kk' : Nat → Int, (∀ j, j < k → kk' j = kk j) → kk' k = (chkX d ks[k] fs).1 → ∀ (j : Nat) (hj : j < ks.length), j < k + 1 → (chkX d ks[j] fs).2 = 0 ∧ kk' j = (chkX d ks[j] fs).1 := fun h0 kk' h1 h2 j hj hjk => by
          by_cases hjk2 : j < k
          · rw [h1 j hjk2]; exact hdone j hj hjk2
          · obtain rfl : j = k := by omega
            exact ⟨h0, h2⟩
        have hres : (chkX d ks[k] fs).2 ≠ 0 → RES = (0, (chkX d ks[k] fs).2) := fun hne => by
          have := HPURE.out.2.2 k hlt (fun j hj => (hdone j (by omega) hj).1) hne
          rw [HPURE.out.1, if_pos (by rw [this]; exact hne), this]
        have HALL := Lib.hid hall
        have HRES := Lib.hid hres
        clear hall hres hdone
        generalize chkX d ks[k] fs = r at hcall HALL HRES
        obtain ⟨r1, r2⟩ := r
        generalize ks[k].op = ko at q0 hcall
        generalize ks[k].name = kn at q2 hcall
        generalize ks[k].val = ky at q3 q4 q5 q6 q7 hcall
        generalize ks[k].kids.length = kl at q1 hcall
        have HC := Lib.hid hcall
        have HROW := Lib.hid hrow
        have HBOX := Lib.hid hbox
        clear hcall hkid hsub hrow hbox
        have hgl := HROW.out.lt
        rcases hz : (r2 != 0) with _ | _
        · have hz0 : r2 = 0 := by simpa using hz
          subst hz0
          go_wp2_with (go_at_call 113; refine (HC.out _).mono ?_; rintro e w2 ⟨rfl, hb2⟩; have hrow2 := (HROW.out.alloc _).of_block (hb2.block _ (by simp; omega)); have hc2 := hrow2.cell hlt; have hf2 := hrow2.frozen k; have HROW2 := Lib.hid hrow2; clear hrow2)
          go_roundw
          case rel =>
            refine ⟨k + 1, fun j => if j = k then r1 else kk j, by omega, by go_num, HALL.out (by first | rfl | trivial) _ (fun j hj => if_neg (by omega)) (if_pos rfl), ?_, ?_, ?_⟩
            · exact (HROW2.out.set k (.int .i64 r1)).congr (fun j hj => by by_cases h : j = k <;> simp [h])
            · exact (hb.trans ((Below.refl _ _).alloc hb.size _)).trans (hb2.mono (by have := hb.size; simp; omega)) |>.setCell (by simp) _
            · exact CellsX.set_off (HBOX.out.below (((Below.refl _ _).alloc (Nat.le_refl _) _).trans (hb2.mono (by simp)))) (by omega) _ _
          case measure => simp [intOf]; omega
        · have hz0 : r2 ≠ 0 := by simpa using hz
          go_wp2_with (go_at_call 113; refine (HC.out _).mono ?_; rintro e w2 ⟨rfl, hb2⟩)
          have hfin := HRES.out hz0
          refine bodyPost_ret (v := pairII (0, r2)) (by simp [results, Tryz.results113, go_sem]) rfl ⟨by rw [hfin], ?_⟩
          exact (hb.trans ((Below.refl _ _).alloc hb.size _)).trans (hb2.mono (by have := hb.size; simp; omega))
      · obtain rfl : k = ks.length := by omega
        have hgd := HPURE.out.2.1 (fun j hj => (hdone j hj hj).1)
        have hR : RES = kindX e (List.map (fun k => (chkX d k fs).1) ks) fs := by
          rw [HPURE.out.1, hgd, if_neg (fun h => h rfl)]
        have hml := HML.out
        have hkk : ∀ (j : Nat) (hj : j < (List.map (fun k => (chkX d k fs).1) ks).length), kk j = (List.map (fun k => (chkX d k fs).1) ks)[j] := fun j hj => by
          have hj' : j < ks.length := by simpa using hj
          rw [hml.1 j hj]; exact (hdone j hj' hj').2
        have hkns := fun (W : World) (hr : W.rowIs (w.heap.size + 1) 3 ks.length (fun j => .int .i64 (kk j))) (h0 : 0 < ks.length) => kns_of W (w.heap.size + 1) ks.length _ kk _ hr hml.2.1 h0 (by omega) hkk
        have hkd := fun (W : World) (hr : W.rowIs (w.heap.size + 1) 3 ks.length (fun j => .int .i64 (kk j))) (h0 : 0 < ks.length) hn h1 h2 => HKIND.out ⟨w.heap.size + 1, 0, none⟩ ks.length ks.length _ _ _ W (hkns W hr h0) hn h1 h2
        simp only [hml.2.2] at hkd
        have hsp := HSP.out
        rw [← hR] at hsp
        clear hkns hkk hml hR hgd hdone
        generalize kindL eop (List.map (fun k => (chkX d k fs).1) ks) = kt at hkd hsp
        have HKD := Lib.hid hkd
        have HS := Lib.hid hsp
        have HROW := Lib.hid hrow
        have HB := Lib.hid hbox
        obtain ⟨b0, b1, b2, b3, b4, b5, b6, b7⟩ := hbox
        have hgl := hrow.lt
        clear hkd hsp hrow
        have hkeep : ∀ W, Below wr.heap.size wr W → CellsX W w.heap.size eop A ks.length c enm ev ∧ W.rowIs (w.heap.size + 1) 3 ks.length (fun j => .int .i64 (kk j)) := fun W h => ⟨HB.out.below h, HROW.out.of_block (h.block _ hgl)⟩
        have HKEEP := Lib.hid hkeep
        clear hkeep
        rcases fb with _ | _
        · have hfin := HS.out.1 rfl
          have HFIN := Lib.hid hfin
          clear hfin
          go_wp2_with (go_at_call 154; refine (HFORM.out _).mono ?_; rintro e w2 ⟨rfl, hb2⟩)
          exact bodyPost_ret (v := pairII (0, 1)) (by simp [results, Tryz.results113, go_sem]) rfl ⟨by rw [HFIN.out], hb.trans (hb2.mono hb.size)⟩
        by_cases o1 : eop = 1
        · have hfin := HS.out.2.1 rfl o1
          have HFIN := Lib.hid hfin
          clear hfin
          subst o1
          go_wp2_with (first
            | (go_at_call 154; refine (HFORM.out _).mono ?_; rintro e w2 ⟨rfl, hb2⟩; obtain ⟨d0, d1, d2, d3, d4, d5, d6, d7⟩ := (HKEEP.out _ hb2).1)
            | (go_at_call 155; refine (HCONST.out _).mono ?_; rintro e w3 ⟨rfl, hb3⟩))
          exact bodyPost_ret (v := pairII cx) (by simp [results, Tryz.results113, go_sem]) rfl ⟨by rw [HFIN.out], (hb.trans (hb2.mono hb.size)).trans (hb3.mono (by have := hb.size; have := hb2.size; omega))⟩
        by_cases o2 : eop = 2
        · have hfin := HS.out.2.2.1 rfl o2
          have HFIN := Lib.hid hfin
          clear hfin
          subst o2
          go_wp2_with (first
            | (go_at_call 154; refine (HFORM.out _).mono ?_; rintro e w2 ⟨rfl, hb2⟩; obtain ⟨d0, d1, d2, d3, d4, d5, d6, d7⟩ := (HKEEP.out _ hb2).1)
            | (go_at_call 156; refine (HFIELD.out _ (hb.trans (hb2.mono hb.size))).mono ?_; rintro e w3 ⟨rfl, hb3⟩))
          exact bodyPost_ret (v := pairII fx) (by simp [results, Tryz.results113, go_sem]) rfl ⟨by rw [HFIN.out], (hb.trans (hb2.mono hb.size)).trans (hb3.mono (by have := hb.size; have := hb2.size; omega))⟩
        have hfin := HS.out.2.2.2.1 rfl o1 o2
        have hkn := HS.out.2.2.2.2 rfl
        have hpos : 0 < ks.length := by
          rcases Nat.eq_zero_or_pos ks.length with h0 | h0
          · exfalso
            rw [h0] at hkn
            unfold kidsN at hkn
            rw [if_neg (by omega)] at hkn
            split at hkn
            · simp at hkn
            split at hkn
            · simp at hkn
            split at hkn <;> simp at hkn
          · exact h0
        have HFIN := Lib.hid hfin
        have hkd := fun W hr => HKD.out W hr hpos hkn o1 o2
        have HKD2 := Lib.hid hkd
        have h1b : (eop == 1) = false := by simpa using o1
        have h2b : (eop == 2) = false := by simpa using o2
        clear hfin hkn hkd HKD
        obtain ⟨kt1, kt2⟩ := kt
        rcases kt2 with _ | _
        · go_wp2_with (first
            | (go_at_call 154; refine (HFORM.out _).mono ?_; rintro e w2 ⟨rfl, hb2⟩; obtain ⟨d0, d1, d2, d3, d4, d5, d6, d7⟩ := (HKEEP.out _ hb2).1)
            | (go_at_call 157; refine (HKD2.out _ (HKEEP.out _ hb2).2).mono ?_; rintro e w3 ⟨rfl, hb3⟩))
          exact bodyPost_ret (v := pairII (0, 40)) (by simp [results, Tryz.results113, go_sem]) rfl ⟨by rw [HFIN.out]; rfl, (hb.trans (hb2.mono hb.size)).trans (hb3.mono (by have := hb.size; have := hb2.size; omega))⟩
        · go_wp2_with (first
            | (go_at_call 154; refine (HFORM.out _).mono ?_; rintro e w2 ⟨rfl, hb2⟩; obtain ⟨d0, d1, d2, d3, d4, d5, d6, d7⟩ := (HKEEP.out _ hb2).1)
            | (go_at_call 157; refine (HKD2.out _ (HKEEP.out _ hb2).2).mono ?_; rintro e w3 ⟨rfl, hb3⟩))
          exact bodyPost_ret (v := pairII (kt1, 0)) (by simp [results, Tryz.results113, go_sem]) rfl ⟨by rw [HFIN.out]; rfl, (hb.trans (hb2.mono hb.size)).trans (hb3.mono (by have := hb.size; have := hb2.size; omega))⟩

/-- Check -/
theorem eCheck_any (FA : Option Addr) (FC : Nat) (fs : List Fd) (D : Nat) (e : Ex) (A : Option Addr) (c : Nat) (w : World) (hx : ExK w D A c e) (hf : FdK w FA FC fs) :
    Calls Tryz.prog 64 #[agX e.op A e.kids.length c e.name e.val, .slice FA fs.length FC] w (VMk (pairII (checkX e fs)) w) := by
  have hs := fun W (hb : Below w.heap.size w W) => small_any D e A c W (hx.below hb (Nat.le_refl _))
  have hc : smallX e = true → ∀ W, Below w.heap.size w W → Calls Tryz.prog 113 #[agX e.op A e.kids.length c e.name e.val, .slice FA fs.length FC] W (VMk (pairII (chkX 6 e fs)) W) := fun h W hb => by
    obtain ⟨h1, h2⟩ := (smallX_iff e).1 h
    exact check_any FA FC fs D 6 e A c W (hx.below hb (Nat.le_refl _)) (hf.below hb (Nat.le_refl _)) h1 h2
  have hr : checkX e fs = if smallX e then chkX 6 e fs else (0, 51) := rfl
  rw [hr]
  generalize chkX 6 e fs = r at hc ⊢
  generalize smallX e = b at hs hc ⊢
  generalize e.kids.length = n at *
  generalize e.op = eop at *
  generalize e.name = enm at *
  generalize e.val = ev at *
  have hb0 : ∀ o, Below w.heap.size w (w.alloc o) := fun o => (Below.refl _ _).alloc (Nat.le_refl _) _
  have HS := Lib.hid hs
  clear hs hr hx hf
  rcases b with _ | _
  · clear hc
    rw [if_neg (by decide)]
    go_enter Tryz.func64, Tryz.ntmps64
    go_wp2_with (go_at_call 112; refine (HS.out _ (hb0 _)).mono ?_; rintro e w1 ⟨rfl, hb1⟩)
    exact bodyPost_ret (v := pairII (0, 51)) (by simp [results, Tryz.results64, go_sem]) rfl ⟨rfl, (hb0 _).trans (hb1.mono (by simp))⟩
  · have hc := hc rfl
    have HC := Lib.hid hc
    clear hc
    rw [if_pos rfl]
    go_enter Tryz.func64, Tryz.ntmps64
    go_wp2_with (first
      | (go_at_call 112; refine (HS.out _ (hb0 _)).mono ?_; rintro e w1 ⟨rfl, hb1⟩; obtain ⟨d0, d1, d2, d3, d4, d5, d6, d7⟩ := (Kid_new w eop A n c enm ev).below hb1)
      | (go_at_call 113; refine (HC.out _ ((hb0 _).trans (hb1.mono (by simp)))).mono ?_; rintro e w2 ⟨rfl, hb2⟩))
    exact bodyPost_ret (v := pairII r) (by simp [results, Tryz.results64, go_sem]) rfl ⟨rfl, ((hb0 _).trans (hb1.mono (by simp))).trans (hb2.mono (by have := hb1.size; simp at this; omega))⟩
end Go.Proofs.YthgdnpcfdgimlabGreat

/- Layer 5: an expression hangs on what it names alone; what does not count is not reckoned. By definition. -/
namespace Go.Proofs.YthgdnpcfdgimlabGreat
open Go.RowKit
set_option linter.unusedVariables false
set_option linter.unusedSimpArgs false

/-- a constant; what divides by nought -/
def conX (v : Vl) : Ex := .mk 1 ⟨#[]⟩ v []
def opX (o : Int) (ks : List Ex) : Ex := .mk o ⟨#[]⟩ vZero ks
def nought : Ex := opX 8 [opX 7 [conX (vInt 1), conX (vInt 0)], conX (vInt 1)]
theorem kind_con (v : Vl) (fs : List Fd) (hg : goodV v = true) : kindX (conX v) [] fs = (v.k, 0) := by
  unfold kindX
  rw [if_neg (by
    intro h
    rcases h with h | h | h
    · exact h rfl
    · have e : (conX v).name.toList = [] := empty_list
      exact h.2 e
    · exact h.1 rfl)]
  rw [if_pos (show (conX v).op = 1 from rfl), if_pos (show goodV (conX v).val = true from hg)]
  rfl
theorem chk_con (d : Nat) (v : Vl) (fs : List Fd) (hg : goodV v = true) : chkX (d + 1) (conX v) fs = (v.k, 0) := kind_con v fs hg
end Go.Proofs.YthgdnpcfdgimlabGreat

/- Layer 5: what reckoning is made of, by the program: panics. -/
namespace Go.Proofs.YthgdnpcfdgimlabGreat
open Go.RowKit
set_option linter.unusedVariables false
set_option linter.unusedSimpArgs false
set_option maxRecDepth 20000

end Go.Proofs.YthgdnpcfdgimlabGreat

/- Layer 5: what a part tells, by the program. (Made by gen/gentell.py.) -/
namespace Go.Proofs.YthgdnpcfdgimlabGreat
open Go.RowKit
set_option linter.unusedVariables false
set_option linter.unusedSimpArgs false
set_option maxRecDepth 20000

theorem alloc1 (W : World) (o : Obj) : Below W.heap.size W (W.alloc o) := (Below.refl _ _).alloc (Nat.le_refl _) o
/-- what is kept of them -/
def TB (w : World) (FA : Option Addr) (fn FC : Nat) (VA : Option Addr) (vn VC : Nat) (op : Int) (A : Option Addr) (n c : Nat) (nm : ByteArray) (v : Vl) (W : World) : Prop :=
  Below w.heap.size w W ∧ w.heap.size + 3 ≤ W.heap.size ∧ W.cell? ⟨w.heap.size, 0, none⟩ = some (.slice FA fn FC) ∧ W.cell? ⟨w.heap.size, 1, none⟩ = some (.slice VA vn VC) ∧ CellsX W (w.heap.size + 1) op A n c nm v ∧
  (∃ cs, W.heap[w.heap.size + 2]? = some (.cells cs 53 (0, 0)) ∧ cs.size = 5)
theorem TB.below {w : World} {FA : Option Addr} {fn FC : Nat} {VA : Option Addr} {vn VC : Nat} {op : Int} {A : Option Addr} {n c : Nat} {nm : ByteArray} {v : Vl} {W W' : World} (h : TB w FA fn FC VA vn VC op A n c nm v W) (hb : Below W.heap.size W W') : TB w FA fn FC VA vn VC op A n c nm v W' := by
  obtain ⟨h0, h1, h2, h3, h4, cs, h5, h6⟩ := h
  exact ⟨h0.trans (hb.mono h0.size), Nat.le_trans h1 hb.size, keepc hb (by omega) h2, keepc hb (by omega) h3, h4.below hb, cs, (hb.block _ (by omega)).trans h5, h6⟩
/-- the answer's block -/
theorem TB.out {w : World} {FA : Option Addr} {fn FC : Nat} {VA : Option Addr} {vn VC : Nat} {op : Int} {A : Option Addr} {n c : Nat} {nm : ByteArray} {v : Vl} {W : World} (h : TB w FA fn FC VA vn VC op A n c nm v W) :
    ∃ u0 u1 u2 u3 u4, W.cell? ⟨w.heap.size + 1 + 1, 0, none⟩ = some u0 ∧ W.cell? ⟨w.heap.size + 1 + 1, 1, none⟩ = some u1 ∧ W.cell? ⟨w.heap.size + 1 + 1, 2, none⟩ = some u2 ∧ W.cell? ⟨w.heap.size + 1 + 1, 3, none⟩ = some u3 ∧ W.cell? ⟨w.heap.size + 1 + 1, 4, none⟩ = some u4 ∧ (∀ j, W.frozen? ⟨w.heap.size + 1 + 1, j, none⟩ = false) := by
  obtain ⟨h0, h1, h2, h3, h4, cs, h5, h6⟩ := h
  have hat : ∀ (j : Nat) (hj : j < 5), W.cell? ⟨w.heap.size + 1 + 1, j, none⟩ = some (cs[j]'(by omega)) := fun j hj => by
    have := cell_of_row W (w.heap.size + 2) j _ _ (0, 0) h5
    rw [this, Array.getElem?_eq_getElem (by omega)]
  exact ⟨_, _, _, _, _, hat 0 (by omega), hat 1 (by omega), hat 2 (by omega), hat 3 (by omega), hat 4 (by omega), fun j => by unfold World.frozen?; have h7 : W.heap[w.heap.size + 1 + 1]? = some (.cells cs 53 (0, 0)) := h5; simp only [h7]; simp⟩
theorem TB.done {w : World} {FA : Option Addr} {fn FC : Nat} {VA : Option Addr} {vn VC : Nat} {op : Int} {A : Option Addr} {n c : Nat} {nm : ByteArray} {v : Vl} {W : World} (h : TB w FA fn FC VA vn VC op A n c nm v W) (u0 u1 u2 u3 u4 : Value) :
    Below w.heap.size w (((((W.setCell ⟨w.heap.size + 2, 0, none⟩ u0).setCell ⟨w.heap.size + 2, 1, none⟩ u1).setCell ⟨w.heap.size + 2, 2, none⟩ u2).setCell ⟨w.heap.size + 2, 3, none⟩ u3).setCell ⟨w.heap.size + 2, 4, none⟩ u4) := below_set5 h.1 (by omega) _ _ _ _ _
end Go.Proofs.YthgdnpcfdgimlabGreat

/- Layer 5: what a part tells, by the program. (Made by gen/gentell.py.) -/
namespace Go.Proofs.YthgdnpcfdgimlabGreat
open Go.RowKit
set_option linter.unusedVariables false
set_option linter.unusedSimpArgs false
set_option maxRecDepth 20000

end Go.Proofs.YthgdnpcfdgimlabGreat

/- Layer 5: what a constant, a field tells, by the program. (Made by gen/gentell5.py.) -/
namespace Go.Proofs.YthgdnpcfdgimlabGreat
open Go.RowKit
set_option linter.unusedVariables false
set_option linter.unusedSimpArgs false
set_option maxRecDepth 20000

end Go.Proofs.YthgdnpcfdgimlabGreat

/- Layer 5: what a part tells, by the program. (Made by gen/gentell.py.) -/
namespace Go.Proofs.YthgdnpcfdgimlabGreat
open Go.RowKit
set_option linter.unusedVariables false
set_option linter.unusedSimpArgs false
set_option maxRecDepth 20000

end Go.Proofs.YthgdnpcfdgimlabGreat

/- Layer 5: what an expression tells, by the program. -/
namespace Go.Proofs.YthgdnpcfdgimlabGreat
open Go.RowKit
set_option linter.unusedVariables false
set_option linter.unusedSimpArgs false
set_option maxRecDepth 20000

end Go.Proofs.YthgdnpcfdgimlabGreat

/- Layer 5: reckoning, and where it gives up, by the program. -/
namespace Go.Proofs.YthgdnpcfdgimlabGreat
open Go.RowKit
set_option linter.unusedVariables false
set_option linter.unusedSimpArgs false
set_option maxRecDepth 20000

/-- the cells of the two answers -/
def Two7 (w : World) (b : Nat) : Prop := (∃ cs, w.heap[b]? = some (.cells cs 53 (0, 0)) ∧ cs.size = 5) ∧ ∃ x, w.heap[b + 1]? = some (.cells #[x] 28 (0, 0))
theorem Two7.open {w : World} {b : Nat} (h : Two7 w b) : ∃ u0 u1 u2 u3 u4 u5, w.cell? ⟨b, 0, none⟩ = some u0 ∧ w.cell? ⟨b, 1, none⟩ = some u1 ∧ w.cell? ⟨b, 2, none⟩ = some u2 ∧ w.cell? ⟨b, 3, none⟩ = some u3 ∧ w.cell? ⟨b, 4, none⟩ = some u4 ∧ w.cell? ⟨b + 1, 0, none⟩ = some u5 ∧ (∀ j, w.frozen? ⟨b, j, none⟩ = false) ∧ (∀ j, w.frozen? ⟨b + 1, j, none⟩ = false) := by
  obtain ⟨⟨cs, h1, h2⟩, x, h3⟩ := h
  have hat : ∀ (j : Nat) (hj : j < 5), w.cell? ⟨b, j, none⟩ = some (cs[j]'(by omega)) := fun j hj => by
    have := cell_of_row w b j _ _ (0, 0) h1
    rw [this, Array.getElem?_eq_getElem (by omega)]
  exact ⟨_, _, _, _, _, _, hat 0 (by omega), hat 1 (by omega), hat 2 (by omega), hat 3 (by omega), hat 4 (by omega), (cell_of_row w (b + 1) 0 _ _ (0, 0) h3).trans rfl, fun j => by unfold World.frozen?; simp only [h1]; simp, fun j => by unfold World.frozen?; simp only [h3]; simp⟩
end Go.Proofs.YthgdnpcfdgimlabGreat

/- Layer 5: Eval, by the program. -/
namespace Go.Proofs.YthgdnpcfdgimlabGreat
open Go.RowKit
set_option linter.unusedVariables false
set_option linter.unusedSimpArgs false
set_option maxRecDepth 20000

theorem Two7.below {w w' : World} {b : Nat} (h : Two7 w b) (hb : Below w.heap.size w w') : Two7 w' b := by
  obtain ⟨⟨cs, h1, h2⟩, x, h3⟩ := h
  exact ⟨⟨cs, (hb.block b (Array.getElem?_eq_some_iff.1 h1).1).trans h1, h2⟩, x, (hb.block _ (Array.getElem?_eq_some_iff.1 h3).1).trans h3⟩
end Go.Proofs.YthgdnpcfdgimlabGreat

/- Layer 5: do values fit fields, by the program and by the document. (Made by gen/genfit.py.) -/
namespace Go.Proofs.YthgdnpcfdgimlabGreat
open Go.RowKit
set_option linter.unusedVariables false
set_option linter.unusedSimpArgs false
set_option maxRecDepth 20000

end Go.Proofs.YthgdnpcfdgimlabGreat

/- Layer 5: Eval, by the program. -/
namespace Go.Proofs.YthgdnpcfdgimlabGreat
open Go.RowKit
set_option linter.unusedVariables false
set_option linter.unusedSimpArgs false
set_option maxRecDepth 20000

end Go.Proofs.YthgdnpcfdgimlabGreat

/- Layer 5: what the laws begin with. -/
namespace Go.Proofs.YthgdnpcfdgimlabGreat
open Go.RowKit
set_option linter.unusedVariables false
set_option linter.unusedSimpArgs false
set_option maxRecDepth 20000

end Go.Proofs.YthgdnpcfdgimlabGreat

/- Layer 5: chapter 5's examples by definition; expressions that are built. -/
namespace Go.Proofs.YthgdnpcfdgimlabGreat
open Go.RowKit
set_option linter.unusedVariables false
set_option linter.unusedSimpArgs false
set_option maxRecDepth 20000

/-! in memory -/
/-- e lies there to some depth -/
def ExE (w : World) (A : Option Addr) (c : Nat) (e : Ex) : Prop := ∃ D, ExK w D A c e
theorem ExK.more {w : World} : ∀ {D : Nat} {A : Option Addr} {c : Nat} {e : Ex}, ExK w D A c e → ExK w (D + 1) A c e
  | 0, _, _, _, h => False.elim h
  | D + 1, A, c, e, h => by
    obtain ⟨h1, h2, h3, h4⟩ := h
    refine ⟨h1, h2, h3, fun j hj => ?_⟩
    obtain ⟨ad, A', c', e1, e2, e3, e4⟩ := h4 j hj
    exact ⟨ad, A', c', e1, e2, e3, ExK.more e4⟩
theorem ExK.upto {w : World} {D : Nat} {A : Option Addr} {c : Nat} {e : Ex} (h : ExK w D A c e) : ∀ n, ExK w (D + n) A c e
  | 0 => h
  | n + 1 => (ExK.upto h n).more
theorem ExE.below {w w' : World} {A : Option Addr} {c : Nat} {e : Ex} (h : ExE w A c e) (hb : Below w.heap.size w w') : ExE w' A c e := let ⟨D, h⟩ := h; ⟨D, h.below hb (Nat.le_refl _)⟩
theorem ExE.leaf (w : World) (e : Ex) (h : e.kids = []) : ExE w none 0 e := ⟨1, ExK.leaf w 0 e h⟩
/-- eight cells of a row from cell i on -/
theorem kid_row (w : World) (g i : Nat) (cs : Array Value) (t : TypeId) (h : w.heap[g]? = some (.cells cs t (0, 0))) (op : Int) (A : Option Addr) (n c : Nat) (nm : ByteArray) (y : Vl)
    (h0 : cs[i]? = some (.int .i64 op)) (h1 : cs[i + 1]? = some (.slice A n c)) (h2 : cs[i + 2]? = some (.string nm)) (h3 : cs[i + 3]? = some (.int .i64 y.k)) (h4 : cs[i + 4]? = some (.int .i64 y.i)) (h5 : cs[i + 5]? = some (.bool y.b)) (h6 : cs[i + 6]? = some (.string y.s)) (h7 : cs[i + 7]? = some (.float .f64 y.n)) :
    Kid w ⟨g, i, none⟩ op A n c nm y :=
  ⟨(cell_of_row w g _ _ _ (0, 0) h).trans h0, (cell_of_row w g _ _ _ (0, 0) h).trans h1, (cell_of_row w g _ _ _ (0, 0) h).trans h2, (cell_of_row w g _ _ _ (0, 0) h).trans h3, (cell_of_row w g _ _ _ (0, 0) h).trans h4, (cell_of_row w g _ _ _ (0, 0) h).trans h5, (cell_of_row w g _ _ _ (0, 0) h).trans h6, (cell_of_row w g _ _ _ (0, 0) h).trans h7⟩
/-- two kids laid in a new row -/
abbrev row2 (p0 : Int) (A0 : Option Addr) (n0 c0 : Nat) (m0 : ByteArray) (y0 : Vl) (p1 : Int) (A1 : Option Addr) (n1 c1 : Nat) (m1 : ByteArray) (y1 : Vl) : Obj :=
  .cells #[.int .i64 p0, .slice A0 n0 c0, .string m0, .int .i64 y0.k, .int .i64 y0.i, .bool y0.b, .string y0.s, .float .f64 y0.n, .int .i64 p1, .slice A1 n1 c1, .string m1, .int .i64 y1.k, .int .i64 y1.i, .bool y1.b, .string y1.s, .float .f64 y1.n] 58
theorem ExE.two {w : World} {A0 A1 : Option Addr} {c0 c1 : Nat} {e0 e1 : Ex} (o : Int) (h0 : ExE w A0 c0 e0) (h1 : ExE w A1 c1 e1) :
    ExE (w.alloc (row2 e0.op A0 e0.kids.length c0 e0.name e0.val e1.op A1 e1.kids.length c1 e1.name e1.val)) (some ⟨w.heap.size, 0, none⟩) 2 (opX o [e0, e1]) := by
  obtain ⟨D0, h0⟩ := h0
  obtain ⟨D1, h1⟩ := h1
  have hn := heap_alloc_new w (row2 e0.op A0 e0.kids.length c0 e0.name e0.val e1.op A1 e1.kids.length c1 e1.name e1.val)
  have hb : Below w.heap.size w (w.alloc (row2 e0.op A0 e0.kids.length c0 e0.name e0.val e1.op A1 e1.kids.length c1 e1.name e1.val)) := alloc1 _ _
  have g0 := (h0.upto D1).below hb (Nat.le_refl _)
  have g1 := (h1.upto D0).below hb (Nat.le_refl _)
  rw [Nat.add_comm] at g1
  refine ⟨D0 + D1 + 1, Nat.le_refl _, by unfold maxLen; show 2 ≤ 2 ^ 63 - 1; omega, fun h => (by cases h), fun j hj => ?_⟩
  have hj2 : j < 2 := hj
  match j, hj2 with
  | 0, _ => exact ⟨_, A0, c0, rfl, by simp, by rw [Addr.add_lit]; exact kid_row _ _ _ _ _ hn _ _ _ _ _ _ rfl rfl rfl rfl rfl rfl rfl rfl, g0⟩
  | 1, _ => exact ⟨_, A1, c1, rfl, by simp, by rw [Addr.add_lit]; exact kid_row _ _ _ _ _ hn _ _ _ _ _ _ rfl rfl rfl rfl rfl rfl rfl rfl, g1⟩
end Go.Proofs.YthgdnpcfdgimlabGreat

/- Layer 6: contracts as they lie in memory. -/
namespace Go.Proofs.YthgdnpcfdgimlabGreat
open Go.RowKit
set_option linter.unusedVariables false
set_option linter.unusedSimpArgs false
set_option maxRecDepth 20000

theorem cellp {w w' : World} {p : Addr} {x : Value} {B : Nat} (hb : Below B w w') (hl : p.block < B) (h : w.cell? p = some x) : w'.cell? p = some x := (hb.cell hl).trans h
/-- the row (A, its length, c) of parts of K cells, each of which is as R says -/
def RowK {α : Type} (w : World) (K : Nat) (R : World → Addr → α → Prop) (A : Option Addr) (c : Nat) (l : List α) : Prop :=
  l.length ≤ c ∧ c ≤ maxLen ∧ (A = none → c = 0) ∧ ∀ j (hj : j < l.length), ∃ ad, A = some ad ∧ ad.block < w.heap.size ∧ R w (ad.add (j * K)) l[j]
theorem RowK.below {α : Type} {w w' : World} {K : Nat} {R : World → Addr → α → Prop} {A : Option Addr} {c : Nat} {l : List α} (hR : ∀ (p : Addr) (x : α), p.block < w.heap.size → R w p x → R w' p x) (h : RowK w K R A c l) (hz : w.heap.size ≤ w'.heap.size) : RowK w' K R A c l := by
  obtain ⟨h1, h2, h3, h4⟩ := h
  refine ⟨h1, h2, h3, fun j hj => ?_⟩
  obtain ⟨ad, e1, e2, e3⟩ := h4 j hj
  exact ⟨ad, e1, Nat.lt_of_lt_of_le e2 hz, hR _ _ (by rw [block_add]; exact e2) e3⟩
theorem RowK.none {α : Type} (w : World) (K : Nat) (R : World → Addr → α → Prop) : RowK w K R none 0 [] := ⟨Nat.le_refl _, Nat.zero_le _, fun _ => rfl, fun j hj => absurd hj (Nat.not_lt_zero _)⟩

/-- a field at p -/
def FldP (w : World) (p : Addr) (f : Fld) : Prop := ∃ A c, Fdp w p f.f.name f.f.kind A f.en.length c f.y ∧ Ss w (.slice A f.en.length c) f.en
/-- ints in a row -/
def Is (w : World) (v : Value) (l : List Int) : Prop := Rd w v (l.map (Value.int .i64))
/-- a stage at p -/
def StgP (w : World) (p : Addr) (s : Stg) : Prop := ∃ A c, w.cell? p = some (.string s.name) ∧ w.cell? ⟨p.block, p.off + 1, none⟩ = some (.int .i64 s.need) ∧ w.cell? ⟨p.block, p.off + 2, none⟩ = some (.slice A s.orgs.length c) ∧ Is w (.slice A s.orgs.length c) s.orgs
/-- an effect at p -/
def EffP (w : World) (p : Addr) (e : Eff) : Prop := ∃ A c, w.cell? p = some (.string e.field) ∧ Kid w ⟨p.block, p.off + 1, none⟩ e.e.op A e.e.kids.length c e.e.name e.e.val ∧ ExE w A c e.e
abbrev EffK (w : World) : Option Addr → Nat → List Eff → Prop := RowK w 9 EffP
/-- a move at p -/
def MvP (w : World) (p : Addr) (m : Mv) : Prop := ∃ A c EA ec, w.cell? p = some (.string m.name) ∧ w.cell? ⟨p.block, p.off + 1, none⟩ = some (.int .i64 m.frm) ∧ w.cell? ⟨p.block, p.off + 2, none⟩ = some (.int .i64 m.too) ∧
  Kid w ⟨p.block, p.off + 3, none⟩ m.guard.op A m.guard.kids.length c m.guard.name m.guard.val ∧ ExE w A c m.guard ∧
  w.cell? ⟨p.block, p.off + 11, none⟩ = some (.slice EA m.effs.length ec) ∧ w.cell? ⟨p.block, p.off + 12, none⟩ = some (.int .i64 m.org) ∧ EffK w EA ec m.effs
theorem FldP.below {w w' : World} {p : Addr} {f : Fld} (h : FldP w p f) (hb : Below w.heap.size w w') (hl : p.block < w.heap.size) : FldP w' p f := by
  obtain ⟨A, c, h1, h2⟩ := h
  exact ⟨A, c, h1.below hb hl, h2.below hb (Nat.le_refl _)⟩
theorem StgP.below {w w' : World} {p : Addr} {s : Stg} (h : StgP w p s) (hb : Below w.heap.size w w') (hl : p.block < w.heap.size) : StgP w' p s := by
  obtain ⟨A, c, h1, h2, h3, h4⟩ := h
  exact ⟨A, c, cellp hb hl h1, cellp hb hl h2, cellp hb hl h3, Rd.below h4 hb (Nat.le_refl _)⟩
theorem EffP.below {w w' : World} {p : Addr} {e : Eff} (h : EffP w p e) (hb : Below w.heap.size w w') (hl : p.block < w.heap.size) : EffP w' p e := by
  obtain ⟨A, c, h1, h2, h3⟩ := h
  exact ⟨A, c, cellp hb hl h1, h2.below hb hl, h3.below hb⟩
theorem EffK.below {w w' : World} {A : Option Addr} {c : Nat} {l : List Eff} (h : EffK w A c l) (hb : Below w.heap.size w w') : EffK w' A c l := RowK.below (fun p x hl h => EffP.below h hb hl) h hb.size
theorem MvP.below {w w' : World} {p : Addr} {m : Mv} (h : MvP w p m) (hb : Below w.heap.size w w') (hl : p.block < w.heap.size) : MvP w' p m := by
  obtain ⟨A, c, EA, ec, h0, h1, h2, h3, h4, h5, h6, h7⟩ := h
  exact ⟨A, c, EA, ec, cellp hb hl h0, cellp hb hl h1, cellp hb hl h2, h3.below hb hl, h4.below hb, cellp hb hl h5, cellp hb hl h6, EffK.below h7 hb⟩
abbrev FldK (w : World) : Option Addr → Nat → List Fld → Prop := RowK w 8 FldP
abbrev StgK (w : World) : Option Addr → Nat → List Stg → Prop := RowK w 3 StgP
abbrev MvK (w : World) : Option Addr → Nat → List Mv → Prop := RowK w 13 MvP
theorem FldK.below {w w' : World} {A : Option Addr} {c : Nat} {l : List Fld} (h : FldK w A c l) (hb : Below w.heap.size w w') : FldK w' A c l := RowK.below (fun p x hl h => FldP.below h hb hl) h hb.size
theorem StgK.below {w w' : World} {A : Option Addr} {c : Nat} {l : List Stg} (h : StgK w A c l) (hb : Below w.heap.size w w') : StgK w' A c l := RowK.below (fun p x hl h => StgP.below h hb hl) h hb.size
theorem MvK.below {w w' : World} {A : Option Addr} {c : Nat} {l : List Mv} (h : MvK w A c l) (hb : Below w.heap.size w w') : MvK w' A c l := RowK.below (fun p x hl h => MvP.below h hb hl) h hb.size
/-- fields, as far as expressions ask -/
theorem FldK.fdk {w : World} {A : Option Addr} {c : Nat} {l : List Fld} (h : FldK w A c l) : FdK w A c (l.map Fld.f) := by
  obtain ⟨h1, h2, h3, h4⟩ := h
  refine ⟨by simpa using h1, h2, h3, fun j hj => ?_⟩
  have hjl : j < l.length := by simpa using hj
  obtain ⟨ad, e1, e2, EA, ec, e3, -⟩ := h4 j hjl
  rw [List.getElem_map]
  exact ⟨ad, EA, _, ec, _, e1, e2, e3⟩
/-- a contract's four cells -/
abbrev agC (nm : ByteArray) (FA : Option Addr) (fn fc : Nat) (SA : Option Addr) (sn sc : Nat) (MA : Option Addr) (mn mc : Nat) : Value := .agg #[.string nm, .slice FA fn fc, .slice SA sn sc, .slice MA mn mc]
/-- where a contract's rows lie -/
structure CtK (w : World) (c : Ctr) (FA : Option Addr) (fc : Nat) (SA : Option Addr) (sc : Nat) (MA : Option Addr) (mc : Nat) : Prop where
  f : FldK w FA fc c.fs
  s : StgK w SA sc c.ss
  m : MvK w MA mc c.ms
theorem CtK.below {w w' : World} {c : Ctr} {FA : Option Addr} {fc : Nat} {SA : Option Addr} {sc : Nat} {MA : Option Addr} {mc : Nat} (h : CtK w c FA fc SA sc MA mc) (hb : Below w.heap.size w w') : CtK w' c FA fc SA sc MA mc := ⟨h.f.below hb, h.s.below hb, h.m.below hb⟩
/-- its numbers are numbers of theirs -/
structure okC (c : Ctr) : Prop where
  y : ∀ f ∈ c.fs, okV f.y ∧ in64 f.f.kind
  s : ∀ s ∈ c.ss, in64 s.need ∧ ∀ o ∈ s.orgs, in64 o
  m : ∀ m ∈ c.ms, in64 m.frm ∧ in64 m.too ∧ in64 m.org ∧ (∀ k, okX k m.guard) ∧ ∀ e ∈ m.effs, ∀ k, okX k e.e
end Go.Proofs.YthgdnpcfdgimlabGreat

/- Layer 5: the laws' arguments, opened. -/
namespace Go.Proofs.YthgdnpcfdgimlabGreat
open Go.RowKit Go.ChangeShapes Go.WideShapes Go.ChangeAt
set_option linter.unusedVariables false
set_option linter.unusedSimpArgs false
set_option maxRecDepth 20000

section
variable {H : Type} {enc : TypeId × Value → H} {W : World} {sp : Nat → Bool} {hd : Bool} {base : Nat} {v : Value} {d : DataW H} {ps : List MemPlace}

theorem open_expr8 : ∀ (fuel : Nat) (cs : List Value) (x : DataW H × List MemPlace), DataW.trod enc Tryz.prog W 0 sp hd fuel 58 cs = some x → cs.length = 8 →
    ∃ (e : Ex) (A : Option Addr) (c D : Nat), cs = [.int .i64 e.op, .slice A e.kids.length c, .string e.name, .int .i64 e.val.k, .int .i64 e.val.i, .bool e.val.b, .string e.val.s, .float .f64 e.val.n] ∧ ExK W D A c e ∧ (∀ k, okX k e) := by
  intro fuel
  induction fuel using Nat.strongRecOn with
  | _ fuel ih =>
    intro cs x ht hlen
    obtain ⟨ys, m, hm, -, -, hys, hfs⟩ := DataW.trod_struct Tryz.underlying58 ht
    match cs, hlen with
    | [c0, c1, c2, c3, c4, c5, c6, c7], _ =>
      match ys, hys with
      | [y0, y1, y2, y3], _ =>
        have k1 : Tryz.prog.cellsOf 3 = 1 := by kernel_rfl
        have k2 : Tryz.prog.cellsOf 56 = 1 := by kernel_rfl
        have k3 : Tryz.prog.cellsOf 9 = 1 := by kernel_rfl
        have k4 : Tryz.prog.cellsOf 53 = 5 := by kernel_rfl
        have g0 := hfs 0 _ rfl
        have g1 := hfs 1 _ rfl
        have g2 := hfs 2 _ rfl
        have g3 := hfs 3 _ rfl
        simp [k1, k2, k3, k4] at g0 g1 g2 g3
        obtain ⟨z0, e0, -, w0⟩ := DataW.trod_int Tryz.underlying3 g0
        obtain ⟨z2, e2, -⟩ := DataW.trod_string Tryz.underlying9 g2
        obtain ⟨y, e3, hy⟩ := open_value5 g3 rfl
        simp at e0 e2 e3
        obtain ⟨e3, e4, e5, e6, e7⟩ := e3
        subst e0 e2 e3 e4 e5 e6 e7
        rcases DataW.trod_slice Tryz.underlying56 g1 with ⟨hc, -⟩ | ⟨a, len', cap', elems, rest, n, hn, hc, -, -, hl, hmx, hel, hx, -, -⟩
        · simp at hc
          subst hc
          refine ⟨.mk z0 z2 y [], none, 0, 1, rfl, ExK.leaf W 0 _ rfl, fun k => ?_⟩
          cases k with
          | zero => trivial
          | succ k => exact ⟨hy, in64_of w0, fun k hk => by cases hk⟩
        · simp at hc
          subst hc
          have h8 : Tryz.prog.cellsOf 58 = 8 := by kernel_rfl
          have each : ∀ i, i < len' → ∃ (q : Ex × Option Addr × Nat × Nat), Kid W (a.add (i * 8)) q.1.op q.2.1 q.1.kids.length q.2.2.1 q.1.name q.1.val ∧ ExK W q.2.2.2 q.2.1 q.2.2.1 q.1 ∧ (∀ k, okX k q.1) := by
            intro i hi
            have h1 := hx i hi
            rw [h8, List.getElem?_eq_getElem (by omega)] at h1
            obtain ⟨cs, hcs, ht⟩ := Option.bind_eq_some_iff.1 h1
            obtain ⟨-, hlen, hat⟩ := World.cells?_some hcs
            obtain ⟨e, A, c, D, hce, hk, hok⟩ := ih n (by omega) cs _ ht hlen
            subst hce
            have e0 := hat 0 (by omega)
            have e1 := hat 1 (by omega)
            have e2 := hat 2 (by omega)
            have e3 := hat 3 (by omega)
            have e4 := hat 4 (by omega)
            have e5 := hat 5 (by omega)
            have e6 := hat 6 (by omega)
            have e7 := hat 7 (by omega)
            exact ⟨(e, A, c, D), ⟨by simpa [Addr.add_zero'] using e0, by simpa [Addr.add_succ'] using e1, by simpa [Addr.add_succ'] using e2, by simpa [Addr.add_succ'] using e3, by simpa [Addr.add_succ'] using e4, by simpa [Addr.add_succ'] using e5, by simpa [Addr.add_succ'] using e6, by simpa [Addr.add_succ'] using e7⟩, hk, hok⟩
          have inst : Inhabited (Ex × Option Addr × Nat × Nat) := ⟨(.mk 0 ⟨#[]⟩ ⟨0, 0, false, ⟨#[]⟩, 0⟩ [], none, 0, 0)⟩
          obtain ⟨f, hf⟩ := Deep.choose_lt each
          have hup : ∀ i, i < len' → ExK W (((List.range len').map fun j => (f j).2.2.2).sum) (f i).2.1 (f i).2.2.1 (f i).1 := fun i hi => by
            have hle : ∀ (l : List Nat) (j : Nat), j ∈ l → (f j).2.2.2 ≤ (l.map fun j => (f j).2.2.2).sum := by
              intro l
              induction l with
              | nil => intro j hj; cases hj
              | cons a l ih2 =>
                intro j hj
                rw [List.map_cons, List.sum_cons]
                rcases List.mem_cons.1 hj with rfl | hj
                · omega
                · have := ih2 j hj; omega
            obtain ⟨m, hm⟩ := Nat.exists_eq_add_of_le (hle (List.range len') i (List.mem_range.2 hi))
            rw [hm]
            exact ExK.upto (hf i hi).2.1 m
          refine ⟨.mk z0 z2 y ((List.range len').map fun j => (f j).1), some a, cap', ((List.range len').map fun j => (f j).2.2.2).sum + 1, ?_, ?_, fun k => ?_⟩
          · simp [Ex.kids, Ex.op, Ex.name, Ex.val]
          · refine ⟨by simpa [Ex.kids] using hl, hmx, fun h => (by cases h), fun j hj => ?_⟩
            have hjl : j < len' := by simpa [Ex.kids] using hj
            have hk := (hf j hjl).1
            refine ⟨a, (f j).2.1, (f j).2.2.1, rfl, ?_, ?_, ?_⟩
            · have := cell_lt hk.1
              rwa [block_add] at this
            · simpa [Ex.kids] using hk
            · simpa [Ex.kids] using hup j hjl
          · cases k with
            | zero => trivial
            | succ k =>
              refine ⟨hy, in64_of w0, fun x hx => ?_⟩
              obtain ⟨j, hj, rfl⟩ := List.mem_map.1 hx
              exact (hf j (List.mem_range.1 hj)).2.2 k
end
end Go.Proofs.YthgdnpcfdgimlabGreat

/- Layer 6: contracts that are handed in, opened. -/
namespace Go.Proofs.YthgdnpcfdgimlabGreat
open Go.RowKit Go.ChangeShapes Go.WideShapes Go.ChangeAt
set_option linter.unusedVariables false
set_option linter.unusedSimpArgs false
set_option maxRecDepth 20000

section
variable {H : Type} {enc : TypeId × Value → H} {W : World} {sp : Nat → Bool} {hd : Bool} {base : Nat} {v : Value} {d : DataW H} {ps : List MemPlace}

/-- a row that is handed in, part by part -/
theorem row_of {α : Type} (inst : Inhabited α) {m : Nat} {x : DataW H × List MemPlace} {c : Value} {T E : TypeId} {K : Nat} (R : World → Addr → α → Prop) (Q : α → Prop) (hu : Tryz.prog.underlying T = some (.slice E)) (hK : Tryz.prog.cellsOf E = K) (hR : ∀ p x, R W p x → p.block < W.heap.size)
    (hpart : ∀ n cs y p, DataW.trod enc Tryz.prog W 0 sp hd n E cs = some y → cs.length = K → (∀ i, i < K → W.cell? (p.add i) = cs[i]?) → ∃ z, R W p z ∧ Q z)
    (h : DataW.trod enc Tryz.prog W 0 sp hd m T [c] = some x) : ∃ (l : List α) (A : Option Addr) (cap : Nat), c = .slice A l.length cap ∧ RowK W K R A cap l ∧ ∀ z ∈ l, Q z := by
  rcases DataW.trod_slice hu h with ⟨hc, -⟩ | ⟨a, len', cap', elems, rest, n, -, hc, -, -, hl, hm, hel, hx, -, -⟩
  · injection hc with hc
    subst hc
    exact ⟨[], none, 0, rfl, RowK.none _ _ _, fun z hz => by cases hz⟩
  · injection hc with hc
    subst hc
    have each : ∀ i, i < len' → ∃ z, R W (a.add (i * K)) z ∧ Q z := fun i hi => by
      have h1 := hx i hi
      rw [hK, List.getElem?_eq_getElem (by omega)] at h1
      obtain ⟨cs, hcs, ht⟩ := Option.bind_eq_some_iff.1 h1
      obtain ⟨-, hlen, hat⟩ := World.cells?_some hcs
      exact hpart n cs _ _ ht hlen hat
    obtain ⟨f, hf⟩ := Deep.choose_lt each
    refine ⟨(List.range len').map f, some a, cap', by simp, ⟨by simpa using hl, hm, fun h => (by cases h), fun j hj => ?_⟩, fun z hz => ?_⟩
    · have hjl : j < len' := by simpa using hj
      have hk := (hf j hjl).1
      refine ⟨a, rfl, ?_, by simpa using hk⟩
      have := hR _ _ hk
      rwa [block_add] at this
    · obtain ⟨j, hj, rfl⟩ := List.mem_map.1 hz
      exact (hf j (List.mem_range.1 hj)).2
theorem open_is {m : Nat} {x : DataW H × List MemPlace} {c : Value} (h : DataW.trod enc Tryz.prog W 0 sp hd m 67 [c] = some x) : ∃ l, Is W c l ∧ ∀ o ∈ l, in64 o := by
  rcases DataW.trod_slice Tryz.underlying67 h with ⟨hc, -⟩ | ⟨a, len', cap', elems, rest, n, -, hc, -, -, hl, hm, hel, hx, -, -⟩
  · injection hc with hc
    subst hc
    exact ⟨[], Rd.nil W, fun o ho => by cases ho⟩
  · injection hc with hc
    subst hc
    have hone : Tryz.prog.cellsOf 3 = 1 := by kernel_rfl
    have each : ∀ i, i < len' → ∃ x : Int, W.cell? (a.add i) = some (.int .i64 x) ∧ in64 x := by
      intro i hi
      have h1 := hx i hi
      rw [hone, Nat.mul_one, List.getElem?_eq_getElem (by omega)] at h1
      obtain ⟨cs, hcs, ht⟩ := Option.bind_eq_some_iff.1 h1
      obtain ⟨-, hlen, hat⟩ := World.cells?_some hcs
      match cs, hlen with
      | [x], _ =>
        have h0 := hat 0 (by simp)
        rw [Addr.add_zero'] at h0
        obtain ⟨z, hz, -, hw⟩ := DataW.trod_int Tryz.underlying3 ht
        injection hz with hz
        exact ⟨z, by rw [h0, hz]; rfl, in64_of hw⟩
    have inst : Inhabited Int := ⟨0⟩
    obtain ⟨f, hf'⟩ := Deep.choose_lt each
    refine ⟨(List.range len').map f, ⟨some a, cap', by simp, by simpa using hl, hm, (by intro h; cases h), fun hne => ⟨a, rfl, ?_, ?_⟩⟩, fun o ho => ?_⟩
    · have hpos : 0 < len' := by
        rcases Nat.eq_zero_or_pos len' with h0 | h0
        · subst h0; exact absurd rfl hne
        · exact h0
      have := cell_lt (hf' 0 hpos).1
      rwa [block_add] at this
    · intro j u hj
      have hjl : j < len' := by
        have := (List.getElem?_eq_some_iff.1 hj).1
        simpa using this
      simp [hjl] at hj
      rw [← hj]
      exact (hf' j hjl).1
    · obtain ⟨j, hj, rfl⟩ := List.mem_map.1 ho
      exact (hf' j (List.mem_range.1 hj)).2
theorem part_fld (n : Nat) (cs : List Value) (x : DataW H × List MemPlace) (p : Addr) (ht : DataW.trod enc Tryz.prog W 0 sp hd n 55 cs = some x) (hlen : cs.length = 8) (hat : ∀ i, i < 8 → W.cell? (p.add i) = cs[i]?) : ∃ z, FldP W p z ∧ (okV z.y ∧ in64 z.f.kind) := by
  obtain ⟨ys, m, -, -, -, hys, hfs⟩ := DataW.trod_struct Tryz.underlying55 ht
  match cs, hlen with
  | [c0, c1, c2, c3, c4, c5, c6, c7], _ =>
    match ys, hys with
    | [y0, y1, y2, y3], _ =>
      have k1 : Tryz.prog.cellsOf 9 = 1 := by kernel_rfl
      have k2 : Tryz.prog.cellsOf 3 = 1 := by kernel_rfl
      have k3 : Tryz.prog.cellsOf 50 = 1 := by kernel_rfl
      have k4 : Tryz.prog.cellsOf 53 = 5 := by kernel_rfl
      have g0 := hfs 0 _ rfl
      have g1 := hfs 1 _ rfl
      have g2 := hfs 2 _ rfl
      have g3 := hfs 3 _ rfl
      simp [k1, k2, k3, k4] at g0 g1 g2 g3
      obtain ⟨z0, e0, -⟩ := DataW.trod_string Tryz.underlying9 g0
      obtain ⟨z1, e1, -, w1⟩ := DataW.trod_int Tryz.underlying3 g1
      obtain ⟨y, e3, hy⟩ := open_value5 g3 rfl
      obtain ⟨ss, hss⟩ := open_texts g2
      obtain ⟨A, c, rfl, -⟩ := hss.open
      simp at e0 e1 e3
      obtain ⟨e3, e4, e5, e6, e7⟩ := e3
      subst e0 e1 e3 e4 e5 e6 e7
      have e0 := hat 0 (by omega)
      have e1 := hat 1 (by omega)
      have e2 := hat 2 (by omega)
      have e3 := hat 3 (by omega)
      have e4 := hat 4 (by omega)
      have e5 := hat 5 (by omega)
      have e6 := hat 6 (by omega)
      have e7 := hat 7 (by omega)
      exact ⟨⟨⟨z0, z1⟩, ss, y⟩, ⟨A, c, ⟨by simpa [Addr.add_zero'] using e0, by simpa [Addr.add_succ'] using e1, by simpa [Addr.add_succ'] using e2, by simpa [Addr.add_succ'] using e3, by simpa [Addr.add_succ'] using e4, by simpa [Addr.add_succ'] using e5, by simpa [Addr.add_succ'] using e6, by simpa [Addr.add_succ'] using e7⟩, hss⟩, hy, in64_of w1⟩
theorem part_stg (n : Nat) (cs : List Value) (x : DataW H × List MemPlace) (p : Addr) (ht : DataW.trod enc Tryz.prog W 0 sp hd n 69 cs = some x) (hlen : cs.length = 3) (hat : ∀ i, i < 3 → W.cell? (p.add i) = cs[i]?) : ∃ z, StgP W p z ∧ (in64 z.need ∧ ∀ o ∈ z.orgs, in64 o) := by
  obtain ⟨ys, m, -, -, -, hys, hfs⟩ := DataW.trod_struct Tryz.underlying69 ht
  match cs, hlen with
  | [c0, c1, c2], _ =>
    match ys, hys with
    | [y0, y1, y2], _ =>
      have k1 : Tryz.prog.cellsOf 9 = 1 := by kernel_rfl
      have k2 : Tryz.prog.cellsOf 3 = 1 := by kernel_rfl
      have k3 : Tryz.prog.cellsOf 67 = 1 := by kernel_rfl
      have g0 := hfs 0 _ rfl
      have g1 := hfs 1 _ rfl
      have g2 := hfs 2 _ rfl
      simp [k1, k2, k3] at g0 g1 g2
      obtain ⟨z0, e0, -⟩ := DataW.trod_string Tryz.underlying9 g0
      obtain ⟨z1, e1, -, w1⟩ := DataW.trod_int Tryz.underlying3 g1
      obtain ⟨l, hl, hok⟩ := open_is g2
      have hl2 := hl
      obtain ⟨A, c, rfl, -⟩ := hl
      simp only [List.length_map] at hl2 hat ⊢
      simp at e0 e1
      subst e0 e1
      have e0 := hat 0 (by omega)
      have e1 := hat 1 (by omega)
      have e2 := hat 2 (by omega)
      exact ⟨⟨z0, z1, l⟩, ⟨A, c, by simpa [Addr.add_zero'] using e0, by simpa [Addr.add_succ'] using e1, by simpa [Addr.add_succ'] using e2, hl2⟩, in64_of w1, hok⟩
theorem part_eff (n : Nat) (cs : List Value) (x : DataW H × List MemPlace) (p : Addr) (ht : DataW.trod enc Tryz.prog W 0 sp hd n 65 cs = some x) (hlen : cs.length = 9) (hat : ∀ i, i < 9 → W.cell? (p.add i) = cs[i]?) : ∃ z, EffP W p z ∧ (∀ k, okX k z.e) := by
  obtain ⟨ys, m, -, -, -, hys, hfs⟩ := DataW.trod_struct Tryz.underlying65 ht
  match cs, hlen with
  | [c0, c1, c2, c3, c4, c5, c6, c7, c8], _ =>
    match ys, hys with
    | [y0, y1], _ =>
      have k1 : Tryz.prog.cellsOf 9 = 1 := by kernel_rfl
      have k2 : Tryz.prog.cellsOf 58 = 8 := by kernel_rfl
      have g0 := hfs 0 _ rfl
      have g1 := hfs 1 _ rfl
      simp [k1, k2] at g0 g1
      obtain ⟨z0, e0, -⟩ := DataW.trod_string Tryz.underlying9 g0
      obtain ⟨e, A, c, D, hc, hx, hok⟩ := open_expr8 _ _ _ g1 rfl
      simp at e0 hc
      obtain ⟨e1, e2, e3, e4, e5, e6, e7, e8⟩ := hc
      subst e0 e1 e2 e3 e4 e5 e6 e7 e8
      have e0 := hat 0 (by omega)
      have e1 := hat 1 (by omega)
      have e2 := hat 2 (by omega)
      have e3 := hat 3 (by omega)
      have e4 := hat 4 (by omega)
      have e5 := hat 5 (by omega)
      have e6 := hat 6 (by omega)
      have e7 := hat 7 (by omega)
      have e8 := hat 8 (by omega)
      exact ⟨⟨z0, e⟩, ⟨A, c, by simpa [Addr.add_zero'] using e0, ⟨by simpa [Addr.add_succ'] using e1, by simpa [Addr.add_succ'] using e2, by simpa [Addr.add_succ'] using e3, by simpa [Addr.add_succ'] using e4, by simpa [Addr.add_succ'] using e5, by simpa [Addr.add_succ'] using e6, by simpa [Addr.add_succ'] using e7, by simpa [Addr.add_succ'] using e8⟩, ⟨D, hx⟩⟩, hok⟩
theorem part_mv (n : Nat) (cs : List Value) (x : DataW H × List MemPlace) (p : Addr) (ht : DataW.trod enc Tryz.prog W 0 sp hd n 61 cs = some x) (hlen : cs.length = 13) (hat : ∀ i, i < 13 → W.cell? (p.add i) = cs[i]?) : ∃ z, MvP W p z ∧ (in64 z.frm ∧ in64 z.too ∧ in64 z.org ∧ (∀ k, okX k z.guard) ∧ ∀ e ∈ z.effs, ∀ k, okX k e.e) := by
  obtain ⟨ys, m, -, -, -, hys, hfs⟩ := DataW.trod_struct Tryz.underlying61 ht
  match cs, hlen with
  | [c0, c1, c2, c3, c4, c5, c6, c7, c8, c9, c10, c11, c12], _ =>
    match ys, hys with
    | [y0, y1, y2, y3, y4, y5], _ =>
      have k1 : Tryz.prog.cellsOf 9 = 1 := by kernel_rfl
      have k2 : Tryz.prog.cellsOf 58 = 8 := by kernel_rfl
      have k3 : Tryz.prog.cellsOf 3 = 1 := by kernel_rfl
      have k4 : Tryz.prog.cellsOf 59 = 1 := by kernel_rfl
      have k5 : Tryz.prog.cellsOf 65 = 9 := by kernel_rfl
      have g0 := hfs 0 _ rfl
      have g1 := hfs 1 _ rfl
      have g2 := hfs 2 _ rfl
      have g3 := hfs 3 _ rfl
      have g4 := hfs 4 _ rfl
      have g5 := hfs 5 _ rfl
      simp [k1, k2, k3, k4] at g0 g1 g2 g3 g4 g5
      obtain ⟨z0, e0, -⟩ := DataW.trod_string Tryz.underlying9 g0
      obtain ⟨z1, e1, -, w1⟩ := DataW.trod_int Tryz.underlying3 g1
      obtain ⟨z2, e2, -, w2⟩ := DataW.trod_int Tryz.underlying3 g2
      obtain ⟨z5, e5, -, w5⟩ := DataW.trod_int Tryz.underlying3 g5
      obtain ⟨e, A, c, D, hc, hx, hok⟩ := open_expr8 _ _ _ g3 rfl
      obtain ⟨l, EA, ec, rfl, hl, hlk⟩ := row_of (K := 9) ⟨⟨⟨#[]⟩, .mk 0 ⟨#[]⟩ vZero []⟩⟩ EffP (fun z => ∀ k, okX k z.e) Tryz.underlying59 k5 (fun p x h => by obtain ⟨_, _, h, -⟩ := h; exact cell_lt h) part_eff g4
      simp at e0 e1 e2 e5 hc
      obtain ⟨f1, f2, f3, f4, f5, f6, f7, f8⟩ := hc
      subst e0 e1 e2 e5 f1 f2 f3 f4 f5 f6 f7 f8
      have e0 := hat 0 (by omega)
      have e1 := hat 1 (by omega)
      have e2 := hat 2 (by omega)
      have e3 := hat 3 (by omega)
      have e4 := hat 4 (by omega)
      have e5 := hat 5 (by omega)
      have e6 := hat 6 (by omega)
      have e7 := hat 7 (by omega)
      have e8 := hat 8 (by omega)
      have e9 := hat 9 (by omega)
      have e10 := hat 10 (by omega)
      have e11 := hat 11 (by omega)
      have e12 := hat 12 (by omega)
      exact ⟨⟨z0, z1, z2, e, l, z5⟩, ⟨A, c, EA, ec, by simpa [Addr.add_zero'] using e0, by simpa [Addr.add_succ'] using e1, by simpa [Addr.add_succ'] using e2, ⟨by simpa [Addr.add_succ'] using e3, by simpa [Addr.add_succ'] using e4, by simpa [Addr.add_succ'] using e5, by simpa [Addr.add_succ'] using e6, by simpa [Addr.add_succ'] using e7, by simpa [Addr.add_succ'] using e8, by simpa [Addr.add_succ'] using e9, by simpa [Addr.add_succ'] using e10⟩, ⟨D, hx⟩, by simpa [Addr.add_succ'] using e11, by simpa [Addr.add_succ'] using e12, hl⟩, in64_of w1, in64_of w2, in64_of w5, hok, hlk⟩
/-- a contract that is handed in -/
theorem open_ctr (hv : Value.okWide Tryz.prog W .any base 26 v) (h : DataW.Trod enc Tryz.prog W 0 sp hd 26 v d ps) :
    ∃ (c : Ctr) (FA : Option Addr) (fc : Nat) (SA : Option Addr) (sc : Nat) (MA : Option Addr) (mc : Nat), v = agC c.name FA c.fs.length fc SA c.ss.length sc MA c.ms.length mc ∧ CtK W c FA fc SA sc MA mc ∧ okC c := by
  obtain ⟨cs, rfl, hsz⟩ := okWide_struct Tryz.underlying26 hv
  obtain ⟨fuel, hf⟩ := h
  obtain ⟨ys, m, -, -, -, hys, hfs⟩ := DataW.trod_struct Tryz.underlying26 hf
  have k0 : Tryz.prog.cellsOf 26 = 4 := by kernel_rfl
  have k1 : Tryz.prog.cellsOf 9 = 1 := by kernel_rfl
  have k2 : Tryz.prog.cellsOf 22 = 1 := by kernel_rfl
  have k3 : Tryz.prog.cellsOf 23 = 1 := by kernel_rfl
  have k4 : Tryz.prog.cellsOf 24 = 1 := by kernel_rfl
  have k5 : Tryz.prog.cellsOf 55 = 8 := by kernel_rfl
  have k6 : Tryz.prog.cellsOf 69 = 3 := by kernel_rfl
  have k7 : Tryz.prog.cellsOf 61 = 13 := by kernel_rfl
  rw [k0] at hsz
  obtain ⟨l⟩ := cs
  match l, hsz with
  | [c0, c1, c2, c3], _ =>
    match ys, hys with
    | [y0, y1, y2, y3], _ =>
      have g0 := hfs 0 _ rfl
      have g1 := hfs 1 _ rfl
      have g2 := hfs 2 _ rfl
      have g3 := hfs 3 _ rfl
      simp [k1, k2, k3, k4, Value.cells] at g0 g1 g2 g3
      obtain ⟨z0, e0, -⟩ := DataW.trod_string Tryz.underlying9 g0
      simp at e0
      subst e0
      obtain ⟨fs, FA, fc, rfl, hfk, hfo⟩ := row_of (K := 8) ⟨⟨⟨⟨#[]⟩, 0⟩, [], vZero⟩⟩ FldP (fun z => okV z.y ∧ in64 z.f.kind) Tryz.underlying22 k5 (fun p x h => by obtain ⟨_, _, h, -⟩ := h; exact cell_lt h.1) part_fld g1
      obtain ⟨ss, SA, sc, rfl, hsk, hso⟩ := row_of (K := 3) ⟨⟨⟨#[]⟩, 0, []⟩⟩ StgP (fun z => in64 z.need ∧ ∀ o ∈ z.orgs, in64 o) Tryz.underlying23 k6 (fun p x h => by obtain ⟨_, _, h, -⟩ := h; exact cell_lt h) part_stg g2
      obtain ⟨ms, MA, mc, rfl, hmk, hmo⟩ := row_of (K := 13) ⟨⟨⟨#[]⟩, 0, 0, .mk 0 ⟨#[]⟩ vZero [], [], 0⟩⟩ MvP (fun z => in64 z.frm ∧ in64 z.too ∧ in64 z.org ∧ (∀ k, okX k z.guard) ∧ ∀ e ∈ z.effs, ∀ k, okX k e.e) Tryz.underlying24 k7 (fun p x h => by obtain ⟨_, _, _, _, h, -⟩ := h; exact cell_lt h) part_mv g3
      exact ⟨⟨z0, fs, ss, ms⟩, FA, fc, SA, sc, MA, mc, rfl, ⟨hfk, hsk, hmk⟩, ⟨hfo, hso, hmo⟩⟩
end
end Go.Proofs.YthgdnpcfdgimlabGreat

/- Layer 5: expressions as bytes, by the program. -/
namespace Go.Proofs.YthgdnpcfdgimlabGreat
open Go.RowKit
set_option linter.unusedVariables false
set_option linter.unusedSimpArgs false
set_option maxRecDepth 20000

/-- short texts, few kids -/
def txtX : Nat → Ex → Prop
  | 0, _ => True
  | d + 1, e => e.name.data.toList.length ≤ 1000 ∧ e.val.s.data.toList.length ≤ 1000 ∧ e.kids.length ≤ 1000 ∧ ∀ k ∈ e.kids, txtX d k
theorem valB_le (v : Vl) : (valB v).length ≤ 20 + v.s.data.toList.length := by
  unfold valB
  rw [List.length_append, be_length]
  split
  · rw [be_length]; omega
  split
  · rw [be_length]; omega
  split
  · rw [List.length_append, be_length]; omega
  split
  · rw [be_length]; omega
  · rw [List.length_nil]; omega
theorem flat_le (d : Nat) (h : ∀ e, txtX d e → (putX d e).length ≤ 2100 * sizeX d e) : ∀ ks : List Ex, (∀ k ∈ ks, txtX d k) → (ks.flatMap (putX d)).length ≤ 2100 * (ks.map (sizeX d)).sum
  | [], _ => Nat.zero_le _
  | k :: ks, hk => by
    rw [List.flatMap_cons, List.length_append, List.map_cons, List.sum_cons, Nat.mul_add]
    exact Nat.add_le_add (h k (hk k (List.mem_cons_self ..))) (flat_le d h ks fun x hx => hk x (List.mem_cons_of_mem _ hx))
theorem putX_le : ∀ d e, txtX d e → (putX d e).length ≤ 2100 * sizeX d e
  | 0, e, _ => Nat.zero_le _
  | d + 1, e, h => by
    obtain ⟨h1, h2, -, h4⟩ := h
    have hf := flat_le d (putX_le d) e.kids h4
    have hv := valB_le e.val
    unfold putX sizeX
    simp only [List.length_append, be_length]
    rw [Nat.mul_add]
    omega
theorem deep_size : ∀ d e, deepX d e → 1 ≤ sizeX d e
  | 0, e, h => False.elim h
  | d + 1, e, _ => by unfold sizeX; omega
theorem kids_size (d : Nat) : ∀ ks : List Ex, (∀ k ∈ ks, deepX d k) → ks.length ≤ (ks.map (sizeX d)).sum
  | [], _ => Nat.le_refl _
  | k :: ks, h => by
    have h1 := deep_size d k (h k (List.mem_cons_self ..))
    have h2 := kids_size d ks fun x hx => h x (List.mem_cons_of_mem _ hx)
    rw [List.length_cons, List.map_cons, List.sum_cons]
    omega
theorem mem_size (d : Nat) : ∀ (ks : List Ex) (k : Ex), k ∈ ks → sizeX d k ≤ (ks.map (sizeX d)).sum
  | k :: ks, x, h => by
    rw [List.map_cons, List.sum_cons]
    rcases List.mem_cons.1 h with rfl | h
    · omega
    · have := mem_size d ks x h; omega
/-- all texts are short -/
def shX : Nat → Ex → Prop
  | 0, _ => True
  | d + 1, e => e.name.data.toList.length ≤ 1000 ∧ e.val.s.data.toList.length ≤ 1000 ∧ ∀ k ∈ e.kids, shX d k
theorem txtX_of : ∀ d e, deepX d e → sizeX d e ≤ 1000 → shX d e → txtX d e
  | 0, _, _, _, _ => trivial
  | d + 1, e, hd, hs, h => by
    have h1 := kids_size d e.kids hd
    have hs' : 1 + (e.kids.map (sizeX d)).sum ≤ 1000 := hs
    exact ⟨h.1, h.2.1, by omega, fun k hk => txtX_of d k (hd k hk) (by have := mem_size d e.kids k hk; omega) (h.2.2 k hk)⟩
theorem bel2 {a b c : World} (h : Below a.heap.size a b) (k : Below b.heap.size b c) : Below a.heap.size a c := h.trans (k.mono h.size)
theorem capC_of {n : Nat} (h : n ≤ 1000) : (capC (n : Int)).toNat = n := by unfold capC; omega
theorem own_belowX {w w' : World} {base e s n : Nat} {v : Value} {xs : List Value} (h : w.ownsRow base e s v n xs) (hb : Below w.heap.size w w') : w'.ownsRow base e s v n xs := by
  obtain ⟨h1, h2⟩ := h
  refine ⟨h1, ?_⟩
  rcases h2 with h2 | ⟨g, cap, cur, e1, e2, e3, e4⟩
  · exact .inl h2
  · exact .inr ⟨g, cap, cur, e1, e2, (hb.block g (Array.getElem?_eq_some_iff.1 e3).1).trans e3, e4⟩
theorem own_len {w : World} {B : Nat} {v : Value} {n m : Nat} {l : List UInt8} (h : w.ownsRow B 5 1 v n (l.map bc)) (hm : m = l.length) : w.ownsRow B 5 1 v m (l.map bc) := by
  have h1 := h.1
  simp at h1
  subst hm
  rw [h1]; exact h
theorem own_nilrow {w w' : World} {B : Nat} {v : Value} {n : Nat} {l : List UInt8} (h : w.ownsRow B 5 1 v n (l.map bc)) : Bs w v l := Rd.of_own h

/-- what is put behind an own row -/
def PutsO (B : Nat) (l : List UInt8) (w : World) (e : Ending) (w' : World) : Prop := ∃ v', e = .returned v' ∧ w'.ownsRow B 5 1 v' l.length (l.map bc) ∧ Below B w w'
theorem take_put (d : Nat) (ks : List Ex) (k : Nat) (hk : k < ks.length) : (ks.take (k + 1)).flatMap (putX d) = (ks.take k).flatMap (putX d) ++ putX d ks[k] := by
  rw [List.take_succ_eq_append_getElem hk, List.flatMap_append]
  simp
theorem take_put_le (d : Nat) (ks : List Ex) (k : Nat) : ((ks.take k).flatMap (putX d)).length ≤ (ks.flatMap (putX d)).length := by
  have h : ks.flatMap (putX d) = (ks.take k).flatMap (putX d) ++ (ks.drop k).flatMap (putX d) := by rw [← List.flatMap_append, List.take_append_drop]
  rw [h, List.length_append]; omega
theorem text_bs (s : ByteArray) (h : s.data.toList.length ≤ 1000) (W : World) : Bs (Lib.bytesWorld W 5 s) (.slice (some ⟨W.heap.size, 0, none⟩) s.size (grownCap W s.size 0 5)) s.data.toList := by
  have h := bytesWorld_bs W s.data.toList (by unfold maxLen; omega) _ rfl
  rwa [← strB_of s] at h

set_option maxHeartbeats 4000000 in
theorem appendParts_any (w0 : World) (B : Nat) (hB0 : w0.heap.size ≤ B) : ∀ (D d : Nat) (e : Ex) (A : Option Addr) (c : Nat) (v : Value) (l : List UInt8) (w : World), ExK w0 D A c e → deepX d e → txtX d e → okX d e → Below w0.heap.size w0 w → B ≤ w.heap.size → w.ownsRow B 5 1 v l.length (l.map bc) → l.length + (putX d e).length ≤ 60000 →
    Calls Tryz.prog 136 #[v, agX e.op A e.kids.length c e.name e.val] w (PutsO B (l ++ putX d e) w)
  | 0, _, _, _, _, _, _, _, h, _, _, _, _, _, _, _ => False.elim h
  | D + 1, 0, _, _, _, _, _, _, _, h, _, _, _, _, _, _ => False.elim h
  | D + 1, d + 1, e, A, c, v, l, w, hx, hdp, htx, hok, hb, hB, hown, hlen => by
    obtain ⟨i0, hi, hz0, hz1, hz2⟩ := info_parts u8info
    obtain ⟨h2, h3, h4, h5⟩ := hx
    have ih := appendParts_any w0 B hB0 D
    obtain ⟨t1, t2, t3, t4⟩ := htx
    obtain ⟨⟨-, -, okn⟩, -, okk⟩ := hok
    replace hdp : ∀ k ∈ e.kids, deepX d k := hdp
    have hput : putX (d + 1) e = (be 8 (w64 e.op) ++ be 4 e.kids.length ++ be 4 e.name.data.toList.length ++ e.name.data.toList ++ valB e.val) ++ e.kids.flatMap (putX d) := by
      unfold putX
      simp only [List.append_assoc]
    rw [hput] at hlen ⊢
    clear hput
    generalize e.kids = ks at *
    generalize e.op = eop at *
    generalize e.name = enm at *
    generalize e.val = ev at *
    have hvl := valB_le ev
    have q1 : ∀ W, Calls Tryz.prog 133 #[.slice none 0 0, .int .i64 eop] W (Puts W (be 8 (w64 eop))) := fun W => PutInt_any _ [] eop W (Bs.nil W) (by simp)
    have q2 : ∀ W u, Bs W u (be 8 (w64 eop)) → Calls Tryz.prog 86 #[u, .int .i64 ks.length] W (Puts W (be 8 (w64 eop) ++ be 4 ks.length)) := fun W u hu => by
      have h := PutCount_any u _ ks.length W hu (by rw [be_length]; omega) (by omega) (by omega)
      rwa [capC_of t3] at h
    have hcv := fun (W : World) => Lib.run_convert_string_bytes (P := Tryz.prog) W 9 34 5 enm Tryz.underlying9 Tryz.underlying34 Tryz.underlying5
    have q3 : ∀ W z u, Bs W z (be 8 (w64 eop) ++ be 4 ks.length) → Bs W u enm.data.toList → Calls Tryz.prog 85 #[z, u] W (Puts W (be 8 (w64 eop) ++ be 4 ks.length ++ be 4 enm.data.toList.length ++ enm.data.toList)) := fun W z u hz hu => PutBytes_any z u _ _ W hz hu (by rw [List.length_append, be_length, be_length]; omega) (by omega)
    have q4 : ∀ W z, Bs W z (be 8 (w64 eop) ++ be 4 ks.length ++ be 4 enm.data.toList.length ++ enm.data.toList) → Calls Tryz.prog 89 #[z, agV ev] W (PutsV W (be 8 (w64 eop) ++ be 4 ks.length ++ be 4 enm.data.toList.length ++ enm.data.toList ++ valB ev)) := fun W z hz => Put_val ev z _ W hz (by simp only [List.length_append, be_length]; omega) (by omega) okn
    have hn : (be 8 (w64 eop) ++ be 4 ks.length ++ be 4 enm.data.toList.length ++ enm.data.toList ++ valB ev).length ≤ 3000 := by simp only [List.length_append, be_length]; omega
    have HBW := Lib.hid (text_bs enm t1)
    have Q1 := Lib.hid q1
    have Q2 := Lib.hid q2
    have Q3 := Lib.hid q3
    have Q4 := Lib.hid q4
    generalize be 8 (w64 eop) ++ be 4 ks.length ++ be 4 enm.data.toList.length ++ enm.data.toList ++ valB ev = hdl at *
    generalize be 8 (w64 eop) ++ be 4 ks.length ++ be 4 enm.data.toList.length ++ enm.data.toList = l3 at *
    generalize be 8 (w64 eop) ++ be 4 ks.length = l2 at *
    generalize be 8 (w64 eop) = l1 at *
    have HIH := Lib.hid (fun (j : Nat) (hj : j < ks.length) A' c' v l W (hx : ExK w0 D A' c' ks[j]) (hB' : Below w0.heap.size w0 W) (hs : B ≤ W.heap.size) (ho : W.ownsRow B 5 1 v l.length (l.map bc)) (hl : l.length + (putX d (ks[j]'hj)).length ≤ 60000) => ih d ks[j] A' c' v l W hx (hdp _ (List.getElem_mem hj)) (t4 _ (List.getElem_mem hj)) (okk _ (List.getElem_mem hj)) hB' hs ho hl)
    have H5 := Lib.hid h5
    have HTP := Lib.hid (take_put d ks)
    have HTL := Lib.hid (take_put_le d ks)
    have hkid := Lib.hid (Kid_new w eop A ks.length c enm ev)
    have hk3 : ks.length ≤ 9223372036854775807 := by omega
    clear ih h5 h2 h3 h4 q1 q2 q3 q4 t1 t2 t3 t4 okn okk hdp hvl
    have HW0 := Lib.hid (alloc1 w (bxX eop A ks.length c enm ev))
    have HVL := Lib.hid (fun k hk => hown.lt k hk)
    have HV := Lib.hid (own_belowX hown (alloc1 w (bxX eop A ks.length c enm ev)))
    have HLN := Lib.hid hlen
    have HN := Lib.hid hn
    have HB := Lib.hid hb
    have HBB := Lib.hid hB
    have HB0 := Lib.hid hB0
    clear hown hlen hn hb hB hB0
    go_enter Tryz.func136, Tryz.ntmps136
    go_upto_region 1 with fail
    have hsz : w.heap.size < (w.alloc (bxX eop A ks.length c enm ev)).heap.size := by simp
    generalize w.alloc (bxX eop A ks.length c enm ev) = wk at *
    have hall : ∀ W, Below wk.heap.size wk W → CellsX W w.heap.size eop A ks.length c enm ev := fun W h => hkid.out.below h
    have HALL := Lib.hid hall
    clear hall
    have hk1 : ∀ W W', (Below wk.heap.size wk W ∧ W.cell? ⟨w.heap.size, 0, none⟩ = some (.int .i64 eop) ∧ W.cell? ⟨w.heap.size, 1, none⟩ = some (.slice A ks.length c)) → Below W.heap.size W W' → (Below wk.heap.size wk W' ∧ W'.cell? ⟨w.heap.size, 0, none⟩ = some (.int .i64 eop) ∧ W'.cell? ⟨w.heap.size, 1, none⟩ = some (.slice A ks.length c)) :=
      fun W W' h hb => ⟨bel2 h.1 hb, (HALL.out W' (bel2 h.1 hb)).1, (HALL.out W' (bel2 h.1 hb)).2.1⟩
    have HK1 := Lib.hid hk1
    have hS1 : Below wk.heap.size wk wk.drew ∧ wk.drew.cell? ⟨w.heap.size, 0, none⟩ = some (.int .i64 eop) ∧ wk.drew.cell? ⟨w.heap.size, 1, none⟩ = some (.slice A ks.length c) := ⟨(Below.refl _ _).drew, (HALL.out _ (Below.refl _ _).drew).1, (HALL.out _ (Below.refl _ _).drew).2.1⟩
    have HS1 := Lib.hid hS1
    clear hk1 hS1
    go_cut [5] from 8 to 14 (fun s5 wx => ∃ v5, s5 = v5 ∧ Bs wx v5 l2 ∧ Below wk.heap.size wk wx)
    case first =>
      go_region_held3 (fun W => Below wk.heap.size wk W ∧ W.cell? ⟨w.heap.size, 0, none⟩ = some (.int .i64 eop) ∧ W.cell? ⟨w.heap.size, 1, none⟩ = some (.slice A ks.length c)) (first | exact HS1.out | exact HK1.out _ _ (by assumption) hbA | exact HK1.out _ _ (by assumption) hbB) (first
        | (go_at_call 133; refine (Q1.out _).mono ?_; rintro e wA ⟨v1, rfl, ho1, hbA⟩)
        | (go_at_call 86; refine (Q2.out _ _ (Rd.of_own ho1)).mono ?_; rintro e wB ⟨v2, rfl, ho2, hbB⟩))
      go_wp2_with fail
      go_meet
      exact ⟨_, rfl, Rd.of_own ho2, bel2 (bel2 (Below.refl _ _).drew hbA) hbB⟩
    case rest =>
    obtain ⟨v5, rfl, hv5, hb5⟩ := hcut
    have HV5 := Lib.hid hv5
    have hb6 := bel2 HW0.out hb5
    have hk2 : ∀ W W', (Below wc.heap.size wc W ∧ W.cell? ⟨w.heap.size, 2, none⟩ = some (.string enm) ∧ W.cell? ⟨w.heap.size, 3, none⟩ = some (.int .i64 ev.k) ∧ W.cell? ⟨w.heap.size, 4, none⟩ = some (.int .i64 ev.i) ∧ W.cell? ⟨w.heap.size, 5, none⟩ = some (.bool ev.b) ∧ W.cell? ⟨w.heap.size, 6, none⟩ = some (.string ev.s) ∧ W.cell? ⟨w.heap.size, 7, none⟩ = some (.float .f64 ev.n)) → Below W.heap.size W W' → (Below wc.heap.size wc W' ∧ W'.cell? ⟨w.heap.size, 2, none⟩ = some (.string enm) ∧ W'.cell? ⟨w.heap.size, 3, none⟩ = some (.int .i64 ev.k) ∧ W'.cell? ⟨w.heap.size, 4, none⟩ = some (.int .i64 ev.i) ∧ W'.cell? ⟨w.heap.size, 5, none⟩ = some (.bool ev.b) ∧ W'.cell? ⟨w.heap.size, 6, none⟩ = some (.string ev.s) ∧ W'.cell? ⟨w.heap.size, 7, none⟩ = some (.float .f64 ev.n)) :=
      fun W W' h hb => ⟨bel2 h.1 hb, (HALL.out W' (bel2 hb5 (bel2 h.1 hb))).2.2⟩
    have HK2 := Lib.hid hk2
    have hS2 : Below wc.heap.size wc wc.drew ∧ wc.drew.cell? ⟨w.heap.size, 2, none⟩ = some (.string enm) ∧ wc.drew.cell? ⟨w.heap.size, 3, none⟩ = some (.int .i64 ev.k) ∧ wc.drew.cell? ⟨w.heap.size, 4, none⟩ = some (.int .i64 ev.i) ∧ wc.drew.cell? ⟨w.heap.size, 5, none⟩ = some (.bool ev.b) ∧ wc.drew.cell? ⟨w.heap.size, 6, none⟩ = some (.string ev.s) ∧ wc.drew.cell? ⟨w.heap.size, 7, none⟩ = some (.float .f64 ev.n) := ⟨(Below.refl _ _).drew, (HALL.out _ (bel2 hb5 (Below.refl _ _).drew)).2.2⟩
    have HS2 := Lib.hid hS2
    have HB5 := Lib.hid hb5
    have HB6 := Lib.hid hb6
    clear hk2 hS2 hb5 hb6 hv5
    go_upto_region 2 with fail
    go_cut [5] from 15 to 22 (fun s5 wx => ∃ v6, s5 = v6 ∧ Bs wx v6 hdl ∧ Below wc.heap.size wc wx)
    case first =>
      refine wp_region_held_drew (S := (fun W => Below wc.heap.size wc W ∧ W.cell? ⟨w.heap.size, 2, none⟩ = some (.string enm) ∧ W.cell? ⟨w.heap.size, 3, none⟩ = some (.int .i64 ev.k) ∧ W.cell? ⟨w.heap.size, 4, none⟩ = some (.int .i64 ev.i) ∧ W.cell? ⟨w.heap.size, 5, none⟩ = some (.bool ev.b) ∧ W.cell? ⟨w.heap.size, 6, none⟩ = some (.string ev.s) ∧ W.cell? ⟨w.heap.size, 7, none⟩ = some (.float .f64 ev.n))) (by kernel_rfl) (HS2.out) (fun hHeld => ?_)
      refine wpAnyH_take (i := 0) (oi := ?oi1) (v := ?v1) ?hi1 (by kernel_rfl) (by kernel_rfl) (by kernel_rfl) ?hQ1 (Or.inl ⟨?hw1, ?hy1⟩) (by assumption) ?rest1
      case hi1 => (simp only [gA, gB, gC]; rfl)
      case hQ1 => exact fun _ _ _ h => h
      case hw1 => rfl
      case hy1 => (intro w hSw; (try dsimp only at hSw); go_simp; try with_reducible rfl)
      (try simp only [Act.put, sA, sB, sC])
      refine wpAnyH_take (i := 1) (oi := ?oi2) (v := ?v2) ?hi2 (by kernel_rfl) (by kernel_rfl) (by kernel_rfl) ?hQ2 (Or.inl ⟨?hw2, ?hy2⟩) (by assumption) ?rest2
      case hi2 => (simp only [gA, gB, gC]; rfl)
      case hQ2 => exact fun _ _ _ h => h
      case hw2 => rfl
      case hy2 => (intro w hSw; (try dsimp only at hSw); go_simp; try with_reducible rfl)
      (try simp only [Act.put, sA, sB, sC])
      refine wpAnyH_take (i := 2) (oi := ?oi3) (v := ?v3) ?hi3 (by kernel_rfl) (by kernel_rfl) (by kernel_rfl) ?hQ3 (Or.inl ⟨?hw3, ?hy3⟩) (by assumption) ?rest3
      case hi3 => (simp only [gA, gB, gC]; rfl)
      case hQ3 => exact fun _ _ _ h => h
      case hw3 => rfl
      case hy3 => (intro w hSw; (try dsimp only at hSw); go_simp; try with_reducible rfl)
      (try simp only [Act.put, sA, sB, sC])
      refine wpAnyH_take (i := 5) (oi := ?oi4) (v := ?v4) ?hi4 (by kernel_rfl) (by kernel_rfl) (by kernel_rfl) ?hQ4 (Or.inl ⟨?hw4, ?hy4⟩) (by assumption) ?rest4
      case hi4 => (simp only [gA, gB, gC]; rfl)
      case hQ4 => exact fun _ _ _ h => h
      case hw4 => rfl
      case hy4 => (intro w hSw; (try dsimp only at hSw); go_simp; try with_reducible rfl)
      (try simp only [Act.put, sA, sB, sC])
      refine wpAnyH_take (i := 6) (oi := ?oi5) (v := ?v5) ?hi5 (by kernel_rfl) (by kernel_rfl) (by kernel_rfl) ?hQ5 (Or.inl ⟨?hw5, ?hy5⟩) (by assumption) ?rest5
      case hi5 => (simp only [gA, gB, gC]; rfl)
      case hQ5 => exact fun _ _ _ h => h
      case hw5 => rfl
      case hy5 => (intro w hSw; (try dsimp only at hSw); go_simp; try with_reducible rfl)
      (try simp only [Act.put, sA, sB, sC])
      refine wpAnyH_ready (rs := [3]) (by kernel_rfl) (by simp) ?_
      refine AllReadyH.cons (o := ?o6) ?ho6 (fun K hK => ?st6) AllReadyH.nil
      case ho6 => (simp only [gA, gB, gC]; rfl)
      go_simp
      refine hK.out _ _ ?_ (fun hHeld => ?_)
      · (try dsimp only); exact HK2.out _ _ hHeld (bytesWorld_below _ _ _)
      clear hK K
      (try simp only [Act.put, sA, sB, sC])
      refine wpAnyH_ready (rs := [4]) (by kernel_rfl) (by simp) ?_
      refine AllReadyH.cons (o := ?o7) ?ho7 (fun K hK => ?st7) AllReadyH.nil
      case ho7 => (simp only [gA, gB, gC]; rfl)
      go_simp
      go_at_call 85
      refine (Q3.out _ _ _ (Rd.below HV5.out (bel2 (Below.refl _ _).drew (bytesWorld_below _ _ _)) (Nat.le_refl _)) (HBW.out _)).mono ?_
      rintro e wC ⟨v3, rfl, ho3, hbC⟩
      refine hK.out _ _ ?_ (fun hHeld => ?_)
      · (try dsimp only); exact HK2.out _ _ hHeld hbC
      clear hK K
      (try simp only [Act.put, sA, sB, sC])
      refine wpAnyH_ready (rs := [7]) (by kernel_rfl) (by simp) ?_
      refine AllReadyH.cons (o := ?o8) ?ho8 (fun K hK => ?st8) AllReadyH.nil
      case ho8 => (simp only [gA, gB, gC]; rfl)
      go_simp
      go_at_call 89
      refine (Q4.out _ _ (Rd.of_own ho3)).mono ?_
      rintro e wD ⟨v4, B4, rfl, -, ho4, hbD⟩
      refine hK.out _ _ ?_ (fun hHeld => ?_)
      · (try dsimp only); exact HK2.out _ _ hHeld hbD
      clear hK K
      (try simp only [Act.put, sA, sB, sC])
      refine wpAnyH_take (i := 8) (oi := ?oi9) (v := ?v9) ?hi9 (by kernel_rfl) (by kernel_rfl) (by kernel_rfl) ?hQ9 (Or.inl ⟨?hw9, ?hy9⟩) (by assumption) ?rest9
      case hi9 => (simp only [gA, gB, gC]; rfl)
      case hQ9 => exact fun _ _ _ h => h
      case hw9 => rfl
      case hy9 => (intro w hSw; (try dsimp only at hSw); go_simp; try with_reducible rfl)
      (try simp only [Act.put, sA, sB, sC])
      refine wpAnyH_done (by kernel_rfl) ?_ _
      go_wp2_with fail
      go_meet
      exact ⟨_, rfl, Rd.of_own ho4, bel2 (bel2 (bel2 (Below.refl _ _).drew (bytesWorld_below _ _ _)) hbC) hbD⟩
    case rest =>
    obtain ⟨v6, rfl, hv6, hb7⟩ := hcut
    clear HK2 HS2 HK1 HS1 HV5
    have HV6 := Lib.hid hv6
    have HB7 := Lib.hid (bel2 HB5.out hb7)
    have HB8 := Lib.hid (bel2 HB6.out hb7)
    clear hv6 hb7
    rename_i wd
    obtain ⟨k0, k1, k2, k3, k4, k5, k6, k7⟩ := HALL.out _ HB7.out
    go_wp2_with (at_builtin; refine wpList_append_rd _ rfl _ _ 34 rfl B 5 i0 (.int .u8 0) 1 Tryz.underlying34 hi hz0 hz1 hz2 rfl _ _ _ rfl (own_belowX HV.out HB7.out) _ _ rfl HV6.out (bc_one hdl) (by have := HLN.out; simp only [List.length_map, List.length_append] at this ⊢; unfold maxLen; omega) (by have := HLN.out; simp only [List.length_map, List.length_append] at this ⊢; omega) (by have h1 := HBB.out; have h2 := HB8.out.size; omega) ?_; intro v7 w7 hown7 hgr70; have hgr7 : wc.grownBy w7 v.ownBlock := hgr70; clear hgr70; have hwl := World.block_lt_of_cell? wc _ k1; have hc7 := (World.cell?_of_block (a := ⟨w.heap.size, 1, none⟩) (hgr7.block w.heap.size hwl (fun e => absurd (HVL.out _ e.symm).2 (Nat.lt_irrefl _)))).trans k1; clear k0 k1 k2 k3 k4 k5 k6 k7; have HB9 := Lib.hid ((HB8.out.mono HBB.out).grown hgr7 (Nat.le_trans HBB.out HB8.out.size) (fun k hk => (HVL.out k hk).1)); rw [← List.map_append] at hown7; have HO7 := Lib.hid (own_len hown7 rfl); clear hown7 hgr7 hwl)
    go_loopw [0, 29] (fun v i wr => ∃ k : Nat, k ≤ ks.length ∧ i = .int .i64 k ∧ wr.ownsRow B 5 1 v (l ++ hdl ++ (ks.take k).flatMap (putX d)).length ((l ++ hdl ++ (ks.take k).flatMap (putX d)).map bc) ∧ Below B w wr) (fun _ i _ => ks.length - (intOf i).toNat)
    case atStart => exact ⟨0, Nat.zero_le _, rfl, by rw [List.take_zero, List.flatMap_nil, List.append_nil]; exact HO7.out, HB9.out⟩
    case round =>
      obtain ⟨k, hk, rfl, ho, hbr⟩ := hrel
      have HO := Lib.hid ho
      have HBR := Lib.hid hbr
      by_cases hlt : k < ks.length
      · obtain ⟨ad, A', c', rfl, hbl, hkid2, hsub⟩ := H5.out k hlt
        have hB : Below w0.heap.size w0 wr := HB.out.trans (hbr.mono HB0.out)
        obtain ⟨q0, q1, q2, q3, q4, q5, q6, q7⟩ := hkid2.below hB (by rw [block_add]; exact hbl)
        have hcall := fun o v l ho hl => HIH.out k hlt A' c' v l (wr.alloc o) hsub (hB.trans (((Below.refl _ _).alloc (Nat.le_refl _) o).mono hB.size)) (by have := HBB.out; have := hbr.size; simp; omega) ho hl
        have hln : (l ++ hdl ++ (ks.take k).flatMap (putX d)).length + (putX d ks[k]).length ≤ 60000 := by
          have h1 := HTL.out (k + 1)
          rw [HTP.out k hlt, List.length_append] at h1
          have h2 := HLN.out
          simp only [List.length_append] at h2 ⊢
          omega
        have HLL := Lib.hid hln
        have hltI : (k : Int) < (ks.length : Int) := by omega
        have HTK := Lib.hid (HTP.out k hlt)
        generalize putX d ks[k] = pk at hcall HLL HTK
        generalize ks[k].op = ko at q0 hcall
        generalize ks[k].name = kn at q2 hcall
        generalize ks[k].val = ky at q3 q4 q5 q6 q7 hcall
        generalize ks[k].kids.length = kl at q1 hcall
        have HC := Lib.hid hcall
        have hsf := fun (w : World) (a : Addr) (m : Mode) (b : Nat) => run_store Tryz.prog w a (.float .f64 b) m rfl
        clear hcall hkid2 hsub hB hln ho hbr hc7
        go_wp2_with (go_at_call 136; refine (HC.out _ _ _ (HO.out.alloc _) HLL.out).mono ?_; rintro e w2 ⟨v2, rfl, ho2, hb2⟩)
        go_roundw
        case rel => exact ⟨k + 1, by omega, by go_num, by rw [HTK.out, ← List.append_assoc]; exact ho2, (HBR.out.alloc (by have := HBB.out; have := HBR.out.size; omega) _).trans hb2⟩
        case measure => simp [intOf]; omega
      · obtain rfl : k = ks.length := by omega
        clear ho hbr hc7
        go_wp2
        go_ret
        exact ⟨_, rfl, by have h := HO.out; rw [List.take_length] at h; rw [← List.append_assoc]; exact h, HBR.out⟩
/-- a clone's row is owned -/
theorem Clone_puts (v : Value) (l : List UInt8) (w : World) (hv : Bs w v l) (hl : l.length ≤ 140737488355320) : Calls Tryz.prog 45 #[v] w (Puts w l) := by
  obtain ⟨i0, hi, hz0, hz1, hz2⟩ := info_parts u8info
  obtain ⟨A, c, rfl, hc, hmx, hn, -⟩ := hv.open
  rcases A with _ | ad
  · have hc0 := hn rfl
    subst hc0
    have hl0 : l = [] := List.eq_nil_of_length_eq_zero (by omega)
    subst hl0
    clear hn hv
    have he := fun (w : World) => Lib.run_eql_slice_nil (P := Tryz.prog) w 34 5 none 0 0 0 0 Tryz.underlying34
    simp only [List.length_nil]
    go_enter Tryz.func45, Tryz.ntmps45
    go_wp2
    go_ret
    exact ⟨_, rfl, World.ownsRow_nil _ _ _ _, Below.refl _ _⟩
  · clear hn
    have hv' : Rd w (.slice (some ad) l.length c) (l.map bc) := hv
    have HV := Lib.hid hv'
    clear hv hv'
    have he := fun (w : World) => Lib.run_eql_slice_nil (P := Tryz.prog) w 34 5 (some ad) l.length c 0 0 Tryz.underlying34
    go_enter Tryz.func45, Tryz.ntmps45
    go_wp2_with (at_builtin; refine wpList_append_rd _ rfl _ _ 34 rfl w.heap.size 5 i0 (.int .u8 0) 1 Tryz.underlying34 hi hz0 hz1 hz2 rfl _ _ _ rfl (own_empty _ _ _ _ (by simp) (by simp)) _ _ rfl (Rd.below HV.out ((Below.refl w.heap.size w).alloc (Nat.le_refl _) _) (Nat.le_refl _)) (bc_one l) (by simp; unfold maxLen; omega) (by simp; omega) (by simp) ?_; intro v2 w2 hown2 hg2)
    go_ret
    refine ⟨_, rfl, by simpa using hown2, ?_⟩
    exact ((Below.refl w.heap.size w).alloc (Nat.le_refl _) _).grown hg2 (by simp) (by intro k h; injection h with h; simp only at h; omega)
/-- what Put puts -/
def putE (e : Ex) : List UInt8 := if smallX e = true then putX 6 e else []
theorem putE_le (e : Ex) (h : smallX e = true → txtX 6 e) : (putE e).length ≤ 50400 := by
  unfold putE
  split
  · rename_i hs
    have h1 := putX_le 6 e (h hs)
    have h2 := ((smallX_iff e).1 hs).2
    omega
  · simp
set_option maxHeartbeats 1000000 in
/-- Put -/
theorem ePut_any (D : Nat) (e : Ex) (A : Option Addr) (c : Nat) (v : Value) (l : List UInt8) (w : World) (hx : ExK w D A c e) (htx : smallX e = true → txtX 6 e) (hok : okX 6 e) (hv : Bs w v l) (hl : l.length ≤ 5000) :
    Calls Tryz.prog 91 #[v, agX e.op A e.kids.length c e.name e.val] w (PutsV w (l ++ putE e)) := by
  have hle := putE_le e htx
  have q1 : ∀ W, Below w.heap.size w W → Calls Tryz.prog 45 #[v] W (Puts W l) := fun W hb => Clone_puts v l W (Rd.below hv hb (Nat.le_refl _)) (by omega)
  have q2 : ∀ W, Below w.heap.size w W → Calls Tryz.prog 112 #[agX e.op A e.kids.length c e.name e.val] W (VMk (.bool (smallX e)) W) := fun W hb => small_any D e A c W (hx.below hb (Nat.le_refl _))
  have q3 : smallX e = true → ∀ B z W, w.heap.size ≤ B → Below w.heap.size w W → B ≤ W.heap.size → W.ownsRow B 5 1 z l.length (l.map bc) → Calls Tryz.prog 136 #[z, agX e.op A e.kids.length c e.name e.val] W (PutsO B (l ++ putE e) W) := fun hs B z W h1 h2 h3 h4 => by
    have hp : putE e = putX 6 e := if_pos hs
    rw [hp] at hle ⊢
    exact appendParts_any w B h1 D 6 e A c z l W hx ((smallX_iff e).1 hs).1 (htx hs) hok h2 h3 h4 (by omega)
  have hno : smallX e = false → putE e = [] := fun h => if_neg (by rw [h]; decide)
  have HK := Lib.hid (Kid_new w e.op A e.kids.length c e.name e.val)
  have HW := Lib.hid (alloc1 w (bxX e.op A e.kids.length c e.name e.val))
  generalize putE e = pe at *
  have Q1 := Lib.hid q1
  have HNO := Lib.hid hno
  clear q1 hx htx hok hv hle hno
  generalize smallX e = sm at *
  have Q2 := Lib.hid q2
  have Q3 := Lib.hid q3
  clear q2 q3
  generalize e.kids.length = n at *
  generalize e.op = eop at *
  generalize e.name = enm at *
  generalize e.val = ev at *
  rcases sm with _ | _
  · have hp := HNO.out rfl
    subst hp
    go_enter Tryz.func91, Tryz.ntmps91
    go_wp2_with fail
    refine (Q1.out _ HW.out).mono ?_
    rintro _ w1 ⟨v1, rfl, ho1, hb1⟩
    have HO1 := Lib.hid ho1
    have HB1 := Lib.hid (bel2 HW.out hb1)
    obtain ⟨k0, k1, k2, k3, k4, k5, k6, k7⟩ := HK.out.below hb1
    clear ho1 hb1
    go_wp2_with fail
    refine (Q2.out _ HB1.out).mono ?_
    rintro _ w2 ⟨rfl, hb2⟩
    go_wp2
    go_ret
    exact ⟨_, _, rfl, HW.out.size, by rw [List.append_nil]; exact own_belowX HO1.out hb2, bel2 HB1.out hb2⟩
  · go_enter Tryz.func91, Tryz.ntmps91
    go_wp2_with fail
    refine (Q1.out _ HW.out).mono ?_
    rintro _ w1 ⟨v1, rfl, ho1, hb1⟩
    have HO1 := Lib.hid ho1
    have HB1 := Lib.hid (bel2 HW.out hb1)
    have HZ1 := Lib.hid hb1.size
    have HK1 := Lib.hid (HK.out.below hb1)
    obtain ⟨k0, k1, k2, k3, k4, k5, k6, k7⟩ := HK1.out
    clear ho1 hb1
    go_wp2_with fail
    refine (Q2.out _ HB1.out).mono ?_
    rintro _ w2 ⟨rfl, hb2⟩
    clear k0 k1 k2 k3 k4 k5 k6 k7
    have HO2 := Lib.hid (own_belowX HO1.out hb2)
    have HB2 := Lib.hid (bel2 HB1.out hb2)
    have HZ2 := Lib.hid (Nat.le_trans HZ1.out hb2.size)
    obtain ⟨k0, k1, k2, k3, k4, k5, k6, k7⟩ := HK1.out.below hb2
    clear hb2
    go_wp2_with fail
    refine (Q3.out (by trivial) _ _ _ HW.out.size HB2.out HZ2.out HO2.out).mono ?_
    rintro _ w3 ⟨v3, rfl, ho3, hb3⟩
    go_wp2
    go_ret
    exact ⟨_, _, rfl, HW.out.size, ho3, HB2.out.trans (hb3.mono HW.out.size)⟩
end Go.Proofs.YthgdnpcfdgimlabGreat

/- Layer 5: do values fit fields, by the program and by the document. (Made by gen/genfit.py.) -/
namespace Go.Proofs.YthgdnpcfdgimlabGreat
open Go.RowKit
set_option linter.unusedVariables false
set_option linter.unusedSimpArgs false
set_option maxRecDepth 20000

end Go.Proofs.YthgdnpcfdgimlabGreat

/- Layer 5: ExprSound. -/
namespace Go.Proofs.YthgdnpcfdgimlabGreat
open Go.RowKit
set_option linter.unusedVariables false
set_option linter.unusedSimpArgs false
set_option maxRecDepth 20000

/-- a law's two boxes: the expression, the scope -/
structure SB (w : World) (FA : Option Addr) (fn FC : Nat) (VA : Option Addr) (vn VC : Nat) (op : Int) (A : Option Addr) (n c : Nat) (nm : ByteArray) (v : Vl) (W : World) : Prop where
  bel : Below w.heap.size w W
  ex : CellsX W w.heap.size op A n c nm v
  f : W.cell? ⟨w.heap.size + 1, 0, none⟩ = some (.slice FA fn FC)
  v : W.cell? ⟨w.heap.size + 1, 1, none⟩ = some (.slice VA vn VC)
  lt : w.heap.size + 2 ≤ W.heap.size
theorem SB.below {w : World} {FA : Option Addr} {fn FC : Nat} {VA : Option Addr} {vn VC : Nat} {op : Int} {A : Option Addr} {n c : Nat} {nm : ByteArray} {v : Vl} {W W' : World} (h : SB w FA fn FC VA vn VC op A n c nm v W) (hb : Below W.heap.size W W') : SB w FA fn FC VA vn VC op A n c nm v W' :=
  ⟨h.bel.trans (hb.mono h.bel.size), h.ex.below hb, keepc hb (by have := h.lt; omega) h.f, keepc hb (by have := h.lt; omega) h.v, Nat.le_trans h.lt hb.size⟩
theorem SB.new (w : World) (FA : Option Addr) (fn FC : Nat) (VA : Option Addr) (vn VC : Nat) (op : Int) (A : Option Addr) (n c : Nat) (nm : ByteArray) (v : Vl) (t : TypeId) :
    SB w FA fn FC VA vn VC op A n c nm v ((w.alloc (bxX op A n c nm v)).alloc (.cells #[.slice FA fn FC, .slice VA vn VC] t)) := by
  have h2 := heap_alloc_new (w.alloc (bxX op A n c nm v)) (.cells #[.slice FA fn FC, .slice VA vn VC] t)
  have hs : (w.alloc (bxX op A n c nm v)).heap.size = w.heap.size + 1 := by simp
  rw [hs] at h2
  exact ⟨vbox2 w _ _, (Kid_new w op A n c nm v).below (alloc1 _ _), (cell_of_row _ _ 0 _ _ (0, 0) h2).trans rfl, (cell_of_row _ _ 1 _ _ (0, 0) h2).trans rfl, by simp⟩
end Go.Proofs.YthgdnpcfdgimlabGreat

/- Layer 5: is an expression small, by the document; does it name a field. -/
namespace Go.Proofs.YthgdnpcfdgimlabGreat
open Go.RowKit
set_option linter.unusedVariables false
set_option linter.unusedSimpArgs false
set_option maxRecDepth 20000

end Go.Proofs.YthgdnpcfdgimlabGreat

/- Layer 5: expressions as bytes, by the document. -/
namespace Go.Proofs.YthgdnpcfdgimlabGreat
open Go.RowKit
set_option linter.unusedVariables false
set_option linter.unusedSimpArgs false
set_option maxRecDepth 20000

theorem PutsV.of_puts {w W w' : World} {l : List UInt8} {e : Ending} (h : Puts W l e w') (hb : Below w.heap.size w W) : PutsV w l e w' := by
  obtain ⟨v', rfl, h1, h2⟩ := h
  exact ⟨v', _, rfl, hb.size, h1, bel2 hb h2⟩
theorem PutsV.to {w W w' : World} {l : List UInt8} {e : Ending} (h : PutsV W l e w') (hb : Below w.heap.size w W) : PutsV w l e w' := by
  obtain ⟨v', B, rfl, h0, h1, h2⟩ := h
  exact ⟨v', B, rfl, Nat.le_trans hb.size h0, h1, bel2 hb h2⟩
end Go.Proofs.YthgdnpcfdgimlabGreat

/- Layer 5: rows of structs that are copied behind one another. -/
namespace Go.Proofs.YthgdnpcfdgimlabGreat
open Go.RowKit
set_option linter.unusedVariables false
set_option linter.unusedSimpArgs false
set_option maxRecDepth 20000

/-- the slice value y holds m elements of so many cells: news -/
def RowS (w : World) (size : Nat) (y : Value) (m : Nat) (news : List Value) : Prop :=
  ∃ A c, y = .slice A m c ∧ news.length = m * size ∧ (A = none → m = 0 ∧ c = 0) ∧ ∀ a, A = some a → ∀ j u, news[j]? = some u → w.cell? (a.add j) = some u
theorem RowS.below {w w' : World} {size : Nat} {y : Value} {m : Nat} {news : List Value} (h : RowS w size y m news) (hb : Below w.heap.size w w') : RowS w' size y m news := by
  obtain ⟨A, c, e, h1, h2, h3⟩ := h
  refine ⟨A, c, e, h1, h2, fun a ha j u hj => ?_⟩
  have h4 := h3 a ha j u hj
  have hl := World.block_lt_of_cell? w _ h4
  exact (hb.cell hl).trans h4
section
variable {P : Program} {w : World}
theorem run_append_rows (base : Nat) (t ty e : TypeId) (i : TypeInfo) (z : Value) (size bytes : Nat) (ht : P.underlying t = some (.slice e)) (hi : P.info? e = some i) (hz : i.zero = some z)
    (hsize : i.size = size) (hby : i.bytes = bytes) (hzs : z.cells.size = size) (hpos : 0 < size)
    (v : Value) (n : Nat) (xs : List Value) (hown : w.ownsRow base e size v n xs)
    (y : Value) (m : Nat) (news : List Value) (hr : RowS w size y m news) (h1 : ∀ u ∈ news, u.oneCell' = true)
    (h63 : n + m ≤ maxLen) (hbytes : (n + m) * bytes ≤ 140737488355328) (hbase : base ≤ w.heap.size) :
    ∃ v' w', (Builtin.append_ #[t, t] ty #[v, y]).run P w = .ok v' w' ∧ w'.ownsRow base e size v' (n + m) (xs ++ news) ∧ w.grownBy w' v.ownBlock ∧
      (v'.ownBlock = v.ownBlock ∨ v'.ownBlock = some w.heap.size) := by
  obtain ⟨A, c, rfl, hl, hn, hx⟩ := hr
  rcases A with _ | ad
  · obtain ⟨rfl, rfl⟩ := hn rfl
    have : news = [] := List.eq_nil_of_length_eq_zero (by omega)
    subst this
    exact ⟨v, w, run_append_nothing w base t ty e i size ht hi v n xs hown 0, by simpa using hown, World.grownBy.refl w _, .inl rfl⟩
  · obtain ⟨v', w', hrun, h2, h3, _, h5⟩ := run_append_own_at (P := P) w base t ty e i z size bytes ht hi hz hsize hby hzs hpos v n xs hown ad m c news hl (hx ad rfl) h1 h63 hbytes hbase
    exact ⟨v', w', hrun, h2, h3, h5⟩
end
/-- a field's, a value's cells -/
structure Fx8 where
  f : Fd
  A : Option Addr
  n : Nat
  c : Nat
  y : Vl
def Fx8.cells (q : Fx8) : List Value := [.string q.f.name, .int .i64 q.f.kind, .slice q.A q.n q.c, .int .i64 q.y.k, .int .i64 q.y.i, .bool q.y.b, .string q.y.s, .float .f64 q.y.n]
theorem flat_len {α : Type} (f : α → List Value) (s : Nat) (hf : ∀ x, (f x).length = s) : ∀ l : List α, (l.flatMap f).length = l.length * s
  | [] => by simp
  | x :: l => by rw [List.flatMap_cons, List.length_append, hf, flat_len f s hf l, List.length_cons, Nat.add_mul]; omega
theorem flat_get {α : Type} (f : α → List Value) (s : Nat) (hf : ∀ x, (f x).length = s) : ∀ (l : List α) (j o : Nat) (hj : j < l.length), o < s → (l.flatMap f)[j * s + o]? = (f l[j])[o]?
  | [], j, o, hj, _ => absurd hj (Nat.not_lt_zero _)
  | x :: l, 0, o, _, ho => by rw [List.flatMap_cons, Nat.zero_mul, Nat.zero_add, List.getElem?_append_left (by rw [hf]; exact ho), List.getElem_cons_zero]
  | x :: l, j + 1, o, hj, ho => by
    rw [List.flatMap_cons, List.getElem?_append_right (by rw [hf, Nat.add_mul]; omega), hf, List.getElem_cons_succ, show (j + 1) * s + o - s = j * s + o by rw [Nat.add_mul]; omega]
    exact flat_get f s hf l j o (by simpa using hj) ho
end Go.Proofs.YthgdnpcfdgimlabGreat

/- Layer 5: rows of fields, of values as what is copied. -/
namespace Go.Proofs.YthgdnpcfdgimlabGreat
open Go.RowKit
set_option linter.unusedVariables false
set_option linter.unusedSimpArgs false
set_option maxRecDepth 20000

instance : Inhabited Fd := ⟨⟨⟨#[]⟩, 0⟩⟩
/-- one of them in a new block -/
theorem rows_one (w : World) (cs : List Value) (e : TypeId) (size : Nat) (h : cs.length = size) : RowS (w.alloc (.cells cs.toArray e)) size (.slice (some ⟨w.heap.size, 0, none⟩) 1 1) 1 cs := by
  have hn := heap_alloc_new w (.cells cs.toArray e)
  refine ⟨_, 1, rfl, by omega, fun h => (by cases h), fun a ha j u hj => ?_⟩
  injection ha with ha
  subst ha
  rw [Addr.add_lit, Nat.zero_add, cell_of_row _ _ _ _ _ (0, 0) hn]
  simpa using hj
/-- none of them in a new block -/
theorem own_none (w : World) (e : TypeId) (size : Nat) : (w.alloc (.cells #[] e)).ownsRow w.heap.size e size (.slice (some ⟨w.heap.size, 0, none⟩) 0 0) 0 [] :=
  ⟨by simp, .inr ⟨w.heap.size, 0, #[], rfl, Nat.le_refl _, heap_alloc_new _ _, Nat.le_refl _, Nat.zero_le _, by simp, by simp⟩⟩
end Go.Proofs.YthgdnpcfdgimlabGreat

/- Layer 5: expressions that are read: kids in new memory; what is read is bounded. -/
namespace Go.Proofs.YthgdnpcfdgimlabGreat
open Go.RowKit
set_option linter.unusedVariables false
set_option linter.unusedSimpArgs false
set_option maxRecDepth 20000

/-- e's kids lie in the row (A, .., c), in blocks of S, and so on -/
def ExS (S : Nat → Prop) (w : World) : Nat → Option Addr → Nat → Ex → Prop
  | 0, _, _, _ => False
  | d + 1, A, c, e => e.kids.length ≤ c ∧ c ≤ maxLen ∧ (A = none → c = 0) ∧ ∀ j (hj : j < e.kids.length), ∃ ad A' c', A = some ad ∧ ad.block < w.heap.size ∧ S ad.block ∧ Kid w (ad.add (j * 8)) e.kids[j].op A' e.kids[j].kids.length c' e.kids[j].name e.kids[j].val ∧ ExS S w d A' c' e.kids[j]
theorem ExS.exk {S : Nat → Prop} {w : World} : ∀ {d : Nat} {A : Option Addr} {c : Nat} {e : Ex}, ExS S w d A c e → ExK w d A c e
  | 0, _, _, _, h => False.elim h
  | d + 1, A, c, e, h => by
    obtain ⟨h1, h2, h3, h4⟩ := h
    refine ⟨h1, h2, h3, fun j hj => ?_⟩
    obtain ⟨ad, A', c', e1, e2, -, e3, e4⟩ := h4 j hj
    exact ⟨ad, A', c', e1, e2, e3, ExS.exk e4⟩
theorem Kid.at {w w' : World} {p : Addr} {op : Int} {A : Option Addr} {n c : Nat} {nm : ByteArray} {y : Vl} (h : Kid w p op A n c nm y) (hb : w'.heap[p.block]? = w.heap[p.block]?) : Kid w' p op A n c nm y := by
  obtain ⟨h0, h1, h2, h3, h4, h5, h6, h7⟩ := h
  have k : ∀ o, w'.cell? ⟨p.block, o, none⟩ = w.cell? ⟨p.block, o, none⟩ := fun o => World.cell?_of_block (a := ⟨p.block, o, none⟩) hb
  exact ⟨(World.cell?_of_block hb).trans h0, (k _).trans h1, (k _).trans h2, (k _).trans h3, (k _).trans h4, (k _).trans h5, (k _).trans h6, (k _).trans h7⟩
theorem ExS.move {S T : Nat → Prop} {w w' : World} (h : ∀ b, S b → b < w.heap.size → w'.heap[b]? = w.heap[b]? ∧ T b) (hz : w.heap.size ≤ w'.heap.size) : ∀ {d : Nat} {A : Option Addr} {c : Nat} {e : Ex}, ExS S w d A c e → ExS T w' d A c e
  | 0, _, _, _, h => False.elim h
  | d + 1, A, c, e, hx => by
    obtain ⟨h1, h2, h3, h4⟩ := hx
    refine ⟨h1, h2, h3, fun j hj => ?_⟩
    obtain ⟨ad, A', c', e1, e2, e5, e3, e4⟩ := h4 j hj
    obtain ⟨f1, f2⟩ := h _ e5 e2
    exact ⟨ad, A', c', e1, Nat.lt_of_lt_of_le e2 hz, f2, e3.at (by rw [block_add]; exact f1), ExS.move h hz e4⟩
theorem ExS.leaf (S : Nat → Prop) (w : World) (d : Nat) (e : Ex) (h : e.kids = []) : ExS S w (d + 1) none 0 e := by
  refine ⟨by rw [h]; exact Nat.le_refl _, Nat.zero_le _, fun _ => rfl, fun j hj => ?_⟩
  rw [h] at hj; exact absurd hj (Nat.not_lt_zero _)
/-- a kid that was read, where its own kids lie -/
structure Kx where
  e : Ex
  A : Option Addr
  c : Nat
def Kx.cells (q : Kx) : List Value := [.int .i64 q.e.op, .slice q.A q.e.kids.length q.c, .string q.e.name, .int .i64 q.e.val.k, .int .i64 q.e.val.i, .bool q.e.val.b, .string q.e.val.s, .float .f64 q.e.val.n]
theorem kx_one (qs : List Kx) : ∀ u ∈ qs.flatMap Kx.cells, u.oneCell' = true := by
  intro u hu
  obtain ⟨q, -, hu⟩ := List.mem_flatMap.1 hu
  simp only [Kx.cells, List.mem_cons, List.not_mem_nil, or_false] at hu
  rcases hu with rfl | rfl | rfl | rfl | rfl | rfl | rfl | rfl <;> rfl
/-- an own row of kids -/
theorem exs_own {S T : Nat → Prop} {w : World} {base : Nat} {v : Value} {n d : Nat} {qs : List Kx} (h : w.ownsRow base 58 8 v n (qs.flatMap Kx.cells)) (hk : ∀ q ∈ qs, ExS S w d q.A q.c q.e) (hST : ∀ b, S b → T b) (hT : ∀ b, base ≤ b → T b) (op : Int) (nm : ByteArray) (y : Vl) :
    ∃ A c, v = .slice A (qs.map Kx.e).length c ∧ ExS T w (d + 1) A c (.mk op nm y (qs.map Kx.e)) := by
  have hl := h.1
  rw [flat_len Kx.cells 8 (fun _ => rfl)] at hl
  have hn : n = qs.length := by omega
  subst hn
  rcases h.2 with ⟨rfl, h0⟩ | ⟨g, cap, cur, rfl, hbase, hg, hc, hm, hcs, ht⟩
  · have : qs = [] := List.eq_nil_of_length_eq_zero h0
    subst this
    exact ⟨none, 0, rfl, ExS.leaf _ _ _ _ rfl⟩
  · refine ⟨some ⟨g, 0, none⟩, cap, by rw [List.length_map], ?_, hm, fun h => (by cases h), fun j hj => ?_⟩
    · show (qs.map Kx.e).length ≤ cap
      rw [List.length_map]; exact hc
    have hjl : j < qs.length := by simpa [Ex.kids] using hj
    have hat : ∀ o, o < 8 → w.cell? ⟨g, j * 8 + o, none⟩ = (qs[j].cells)[o]? := fun o ho => by
      rw [cell_of_row w g _ _ _ (0, 0) hg, ← flat_get Kx.cells 8 (fun _ => rfl) qs j o hjl ho, ← ht, List.getElem?_take, if_pos (by omega), Array.getElem?_toList]
    have hge : (Ex.mk op nm y (qs.map Kx.e)).kids[j] = qs[j].e := by simp [Ex.kids]
    rw [hge]
    refine ⟨⟨g, 0, none⟩, qs[j].A, qs[j].c, rfl, (Array.getElem?_eq_some_iff.1 hg).1, hT g hbase, ?_, (hk _ (List.getElem_mem hjl)).move (fun b hb _ => ⟨rfl, hST b hb⟩) (Nat.le_refl _)⟩
    rw [Addr.add_lit, Nat.zero_add]
    exact ⟨hat 0 (by omega), hat 1 (by omega), hat 2 (by omega), hat 3 (by omega), hat 4 (by omega), hat 5 (by omega), hat 6 (by omega), hat 7 (by omega)⟩

/-- all blocks but two are as they were; new ones may be there -/
structure Twb (g s : Nat) (w w' : World) : Prop where
  os : w'.os = w.os
  tape : w'.tape = w.tape
  output : w'.output = w.output
  size : w.heap.size ≤ w'.heap.size
  block : ∀ k, k < w.heap.size → k ≠ g → k ≠ s → w'.heap[k]? = w.heap[k]?
theorem Twb.refl (g s : Nat) (w : World) : Twb g s w w := ⟨rfl, rfl, rfl, Nat.le_refl _, fun _ _ _ _ => rfl⟩
theorem Twb.trans {g s : Nat} {a b c : World} (h : Twb g s a b) (k : Twb g s b c) : Twb g s a c :=
  ⟨k.os.trans h.os, k.tape.trans h.tape, k.output.trans h.output, Nat.le_trans h.size k.size, fun i hi h1 h2 => (k.block i (Nat.lt_of_lt_of_le hi h.size) h1 h2).trans (h.block i hi h1 h2)⟩
theorem Only.two {g : Nat} {w w' : World} (h : Only g w w') (s : Nat) : Twb g s w w' := ⟨h.os, h.tape, h.output, h.size, fun k hk h1 _ => h.block k hk (by intro e; injection e with e; exact h1 e)⟩
theorem Only.two' {s : Nat} {w w' : World} (h : Only s w w') (g : Nat) : Twb g s w w' := ⟨h.os, h.tape, h.output, h.size, fun k hk _ h1 => h.block k hk (by intro e; injection e with e; exact h1 e)⟩
theorem Below.two {w w' : World} (h : Below w.heap.size w w') (g s : Nat) : Twb g s w w' := ⟨h.os, h.tape, h.output, h.size, fun k hk _ _ => h.block k hk⟩
theorem Twb.below {g s B : Nat} {w w' : World} (h : Twb g s w w') (hB : B ≤ w.heap.size) (hg : B ≤ g) (hs : B ≤ s) : Below B w w' := ⟨h.os, h.tape, h.output, h.size, fun k hk => h.block k (by omega) (by omega) (by omega)⟩
theorem Twb.only {g s : Nat} {w w' : World} (h : Twb g s w w') (hs : w.heap.size ≤ s) : Only g w w' := ⟨h.os, h.tape, h.output, h.size, fun k hk h1 => h.block k hk (by intro e; exact h1 (by rw [e])) (by omega)⟩
/-- a store into a block that is new -/
theorem Twb.setNew {g s k : Nat} {a w : World} (h : Twb g s a w) (hk : a.heap.size ≤ k) (j : Nat) (u : Value) : Twb g s a (w.setCell ⟨k, j, none⟩ u) :=
  ⟨h.os, h.tape, h.output, by simpa [World.setCell] using h.size, fun m hm h1 h2 => (Below.heap_setCell w _ u m (by intro e; simp only at e; omega)).trans (h.block m hm h1 h2)⟩

/-! what is read, by definition -/
theorem stepF_len (k : Nat) (al : Int → Int) (rest : List UInt8) (e : Int) : (stepF k al rest e).2.1.length ≤ rest.length := by
  unfold stepF
  split
  · exact Nat.le_refl _
  split
  · exact Nat.le_refl _
  split
  · exact Nat.le_refl _
  · simp
theorem bytesF_len (most : Int) (rest : List UInt8) (e : Int) : (bytesF most rest e).2.1.length ≤ rest.length := by
  have h := stepF_len 4 (alBytes most rest) rest e
  unfold bytesF
  split
  · exact h
  · simp only [List.length_drop]
    omega
theorem readF_len (rest : List UInt8) (e : Int) : (readF rest e).2.1.length ≤ rest.length := by
  have h1 := stepF_len 8 alInt rest e
  unfold readF
  split
  · exact Nat.le_trans (stepF_len 8 alInt _ _) h1
  split
  · exact Nat.le_trans (stepF_len 1 alBool _ _) h1
  split
  · exact Nat.le_trans (bytesF_len 32 _ _) h1
  split
  · exact Nat.le_trans (stepF_len 8 alNum _ _) h1
  · exact h1
/-- a value or the zero one, behind an error, too -/
def rvF (rest : List UInt8) (e : Int) : Vl × List UInt8 × Int := if e = 0 then zeroF rest else (vZero, rest, e)
theorem rvF_0 (rest : List UInt8) : rvF rest 0 = zeroF rest := if_pos rfl
theorem zeroF_no (rest : List UInt8) (h : ¬ (wrap64 ((stepF 8 alInt rest 0).1 : Int) = 0 ∧ (stepF 8 alInt rest 0).2.2 = 0)) : zeroF rest = (getV rest 0, (readF rest 0).2.1, getE rest 0) := if_neg h
theorem zeroF_yes (rest : List UInt8) (h : (wrap64 ((stepF 8 alInt rest 0).1 : Int) = 0 ∧ (stepF 8 alInt rest 0).2.2 = 0)) : zeroF rest = (vZero, (stepF 8 alInt rest 0).2.1, 0) := if_pos h
theorem mid_eq {α β γ : Type} {x : α × β × γ} {a : α} {b : β} {c : γ} (h : x = (a, b, c)) : x.2.1 = b := by subst h; rfl
theorem zeroF_len (rest : List UInt8) : (zeroF rest).2.1.length ≤ rest.length := by
  by_cases h : (wrap64 ((stepF 8 alInt rest 0).1 : Int) = 0 ∧ (stepF 8 alInt rest 0).2.2 = 0)
  · have e := mid_eq (zeroF_yes rest h)
    rw [e]; exact stepF_len 8 alInt rest 0
  · have e := mid_eq (zeroF_no rest h)
    rw [e]; exact readF_len rest 0
theorem rvF_len (rest : List UInt8) (e : Int) : (rvF rest e).2.1.length ≤ rest.length := by
  by_cases he : e = 0
  · subst he
    rw [rvF_0]
    exact zeroF_len rest
  · rw [show rvF rest e = (vZero, rest, e) from if_neg he]
    exact Nat.le_refl _
theorem rvF_err (rest : List UInt8) (e : Int) (he : e ≠ 0) : rvF rest e = (vZero, rest, e) := if_neg he
theorem headX_bd {rest r4 : List UInt8} {o : Int} {c : Nat} {m : ByteArray} {v : Vl} (h : headX rest = .ok (o, c, m, v, r4)) : r4.length ≤ rest.length := by
  unfold headX at h
  split at h
  · cases h
  split at h
  · cases h
  · injection h with h
    simp only [Prod.mk.injEq] at h
    rw [← h.2.2.2.2]
    exact Nat.le_trans (zeroF_len _) (Nat.le_trans (bytesF_len 16 _ _) (Nat.le_trans (stepF_len 4 _ _ _) (stepF_len 8 alInt rest 0)))
theorem headX_er {rest : List UInt8} {e : Int} (h : headX rest = .error e) : e ≠ 0 := by
  unfold headX at h
  split at h
  · rename_i h1
    injection h with h
    rw [← h]; exact h1
  split at h
  · rename_i h1 h2
    injection h with h
    rw [← h]; exact h2
  · cases h
theorem getL_bd {f : Int → List UInt8 → Except Int (Ex × Int × List UInt8)} (hf : ∀ n r k n' r', 0 ≤ n → f n r = .ok (k, n', r') → 0 ≤ n' ∧ n' ≤ n ∧ r'.length ≤ r.length) :
    ∀ (c : Nat) (n : Int) (r : List UInt8) (ks : List Ex) (n' : Int) (r' : List UInt8), 0 ≤ n → getL f c n r = .ok (ks, n', r') → 0 ≤ n' ∧ n' ≤ n ∧ r'.length ≤ r.length
  | 0, n, r, ks, n', r', h0, h => by
    unfold getL at h
    injection h with h
    simp only [Prod.mk.injEq] at h
    obtain ⟨-, rfl, rfl⟩ := h
    exact ⟨h0, Int.le_refl _, Nat.le_refl _⟩
  | c + 1, n, r, ks, n', r', h0, h => by
    unfold getL at h
    rcases h1 : f n r with er | ⟨k, n1, r1⟩
    · rw [h1] at h; cases h
    · rw [h1] at h
      dsimp only at h
      rcases h2 : getL f c n1 r1 with er | ⟨ks', n2, r2⟩
      · rw [h2] at h; cases h
      · rw [h2] at h
        dsimp only at h
        injection h with h
        simp only [Prod.mk.injEq] at h
        obtain ⟨-, rfl, rfl⟩ := h
        obtain ⟨a1, a2, a3⟩ := hf n r k n1 r1 h0 h1
        obtain ⟨b1, b2, b3⟩ := getL_bd hf c n1 r1 ks' _ _ a1 h2
        exact ⟨b1, by omega, by omega⟩
theorem getL_er {f : Int → List UInt8 → Except Int (Ex × Int × List UInt8)} (hf : ∀ n r e, f n r = .error e → e ≠ 0) :
    ∀ (c : Nat) (n : Int) (r : List UInt8) (e : Int), getL f c n r = .error e → e ≠ 0
  | 0, n, r, e, h => by unfold getL at h; cases h
  | c + 1, n, r, e, h => by
    unfold getL at h
    rcases h1 : f n r with er | ⟨k, n1, r1⟩
    · rw [h1] at h
      dsimp only at h
      injection h with h
      rw [← h]; exact hf n r er h1
    · rw [h1] at h
      dsimp only at h
      rcases h2 : getL f c n1 r1 with er | ⟨ks', n2, r2⟩
      · rw [h2] at h
        dsimp only at h
        injection h with h
        rw [← h]; exact getL_er hf c n1 r1 er h2
      · rw [h2] at h; cases h
theorem getX_bd : ∀ (d : Nat) (n : Int) (r : List UInt8) (k : Ex) (n' : Int) (r' : List UInt8), 0 ≤ n → getX d n r = .ok (k, n', r') → 0 ≤ n' ∧ n' ≤ n ∧ r'.length ≤ r.length
  | 0, n, r, k, n', r', _, h => by unfold getX getXH at h; cases h
  | d + 1, n, r, k, n', r', h0, h => by
    unfold getX at h
    rw [getXH] at h
    by_cases hn : n < 1
    · rw [if_pos hn] at h; cases h
    rw [if_neg hn] at h
    rcases h1 : headX r with er | ⟨o, c, m, v, r4⟩
    · rw [h1] at h; cases h
    · rw [h1] at h
      dsimp only at h
      rcases h2 : getL (getXH headX d) c (n - 1) r4 with er | ⟨ks, n2, r2⟩
      · rw [h2] at h; cases h
      · rw [h2] at h
        dsimp only at h
        injection h with h
        simp only [Prod.mk.injEq] at h
        obtain ⟨-, rfl, rfl⟩ := h
        obtain ⟨b1, b2, b3⟩ := getL_bd (getX_bd d) c (n - 1) r4 ks _ _ (by omega) h2
        have := headX_bd h1
        exact ⟨b1, by omega, by omega⟩
theorem getX_er : ∀ (d : Nat) (n : Int) (r : List UInt8) (e : Int), getX d n r = .error e → e ≠ 0
  | 0, n, r, e, h => by unfold getX getXH at h; injection h with h; omega
  | d + 1, n, r, e, h => by
    unfold getX at h
    rw [getXH] at h
    by_cases hn : n < 1
    · rw [if_pos hn] at h; injection h with h; omega
    rw [if_neg hn] at h
    rcases h1 : headX r with er | ⟨o, c, m, v, r4⟩
    · rw [h1] at h
      dsimp only at h
      injection h with h
      rw [← h]; exact headX_er h1
    · rw [h1] at h
      dsimp only at h
      rcases h2 : getL (getXH headX d) c (n - 1) r4 with er | ⟨ks, n2, r2⟩
      · rw [h2] at h
        dsimp only at h
        injection h with h
        rw [← h]; exact getL_er (getX_er d) c (n - 1) r4 er h2
      · rw [h2] at h; cases h
/-- what was read ahead, and what is read -/
def pre (l : List Ex) (x : Except Int (List Ex × Int × List UInt8)) : Except Int (List Ex × Int × List UInt8) := match x with
  | .error e => .error e
  | .ok (ks, n, r) => .ok (l ++ ks, n, r)
theorem pre_nil (x : Except Int (List Ex × Int × List UInt8)) : pre [] x = x := by
  rcases x with e | ⟨ks, n, r⟩ <;> rfl
theorem pre_ok {f : Int → List UInt8 → Except Int (Ex × Int × List UInt8)} {l : List Ex} {c : Nat} {n n1 : Int} {r r1 : List UInt8} {k : Ex} (h : f n r = .ok (k, n1, r1)) : pre l (getL f (c + 1) n r) = pre (l ++ [k]) (getL f c n1 r1) := by
  rw [getL, h]
  dsimp only
  rcases getL f c n1 r1 with e | ⟨ks, n2, r2⟩
  · rfl
  · simp [pre]
theorem pre_no {f : Int → List UInt8 → Except Int (Ex × Int × List UInt8)} {l : List Ex} {c : Nat} {n : Int} {r : List UInt8} {e : Int} (h : f n r = .error e) : pre l (getL f (c + 1) n r) = .error e := by
  rw [getL, h]
  rfl
theorem pre_end {f : Int → List UInt8 → Except Int (Ex × Int × List UInt8)} {l : List Ex} {n : Int} {r : List UInt8} : pre l (getL f 0 n r) = .ok (l, n, r) := by
  rw [getL]
  simp [pre]
end Go.Proofs.YthgdnpcfdgimlabGreat

/- Layer 5: are two expressions the same, by the document. -/
namespace Go.Proofs.YthgdnpcfdgimlabGreat
open Go.RowKit
set_option linter.unusedVariables false
set_option linter.unusedSimpArgs false
set_option maxRecDepth 20000

theorem CellsX.drew {W : World} {b : Nat} {op : Int} {A : Option Addr} {n c : Nat} {nm : ByteArray} {y : Vl} (h : CellsX W b op A n c nm y) : CellsX W.drew b op A n c nm y := h

end Go.Proofs.YthgdnpcfdgimlabGreat

/- Layer 5: a value or the zero one, by the program. -/
namespace Go.Proofs.YthgdnpcfdgimlabGreat
open Go.RowKit
set_option linter.unusedVariables false
set_option linter.unusedSimpArgs false
set_option maxRecDepth 20000

/-- a reader is as it was where another one has gone on -/
theorem RdR.offS {w w' : World} {N g : Nat} {rest r2 : List UInt8} {e e2 : Int} (h : RdR w g rest e) (hp : RdR w N r2 e2) (ho : Only N w w') (hne : g ≠ N) : RdR w' g rest e := by
  obtain ⟨cs, hN, hy⟩ := hp.cells
  have hgl := h.lt
  obtain ⟨rv, hh, hb⟩ := h
  exact ⟨rv, (ho.block g hgl (by intro e; injection e with e; exact hne e)).trans hh, ⟨hb.1.offC ho hN hy, hb.2.offC ho (fun hl => hb.1.not_in hN hy hl)⟩⟩
/-- a reader copied -/
theorem RdR.copy {W : World} {A : Option Addr} {n c : Nat} {rest : List UInt8} {e : Int} (h : Bt W (.slice A n c) rest) (a : Nat) (ha : a = W.heap.size) : RdR (W.alloc (.cells #[.slice A n c, .int .i64 e] 94)) a rest e := by
  subst ha
  exact ⟨_, heap_alloc_new _ _, Bt.below h ((Below.refl _ _).alloc (Nat.le_refl _) _) (Nat.le_refl _)⟩
/-- .. and copied back -/
theorem RdR.back {W : World} {g : Nat} {rest r1 : List UInt8} {e e1 : Int} {v : Value} (h : RdR W g rest e) (hv : Bt W v r1) : RdR ((W.setCell ⟨g, 0, none⟩ v).setCell ⟨g, 1, none⟩ (.int .i64 e1)) g r1 e1 := (h.setRest v hv).setErr e1

set_option maxHeartbeats 2000000 in
theorem readVal_yes (g : Nat) (rest : List UInt8) (e : Int) (n : Nat) (r1 : List UInt8) (hst : stepF 8 alInt rest e = (n, r1, 0)) (hz : wrap64 (n : Int) = 0) (w : World) (hr : RdR w g rest e) :
    Calls Tryz.prog 219 #[.pointer (some ⟨g, 0, none⟩)] w (GetP g vZero 0 r1 0 w) := by
  obtain ⟨A, c, hbt, -, -, -, hc0, hc1, hf, hgl⟩ := hr.open
  have HW0 := Lib.hid (alloc1 w (.cells #[.int .i64 0, .int .i64 0, .bool false, .string ⟨#[]⟩, .float .f64 0] 53))
  have HN0 := Lib.hid (heap_alloc_new w (.cells #[.int .i64 0, .int .i64 0, .bool false, .string ⟨#[]⟩, .float .f64 0] 53))
  have HCP := Lib.hid (RdR.copy (W := w.alloc (.cells #[.int .i64 0, .int .i64 0, .bool false, .string ⟨#[]⟩, .float .f64 0] 53)) (e := e) (Bt.below hbt HW0.out (Nat.le_refl _)) (w.heap.size + 1) (by simp))
  have q1 : ∀ W, RdR W (w.heap.size + 1) rest e → Calls Tryz.prog 140 #[.pointer (some ⟨w.heap.size + 1, 0, none⟩)] W (Did (w.heap.size + 1) (.int .i64 0) r1 0 W) := fun W h => by
    have h := Int_any (w.heap.size + 1) rest e W h
    rw [hst, hz] at h
    exact h
  have Q1 := Lib.hid q1
  have HR := Lib.hid hr
  have HG := Lib.hid hgl
  have hne : g ≠ w.heap.size + 1 := by omega
  have hne2 : w.heap.size ≠ g := by omega
  clear hst hz hr hbt q1
  have h00 : ((0 : Int) != 0) = false := rfl
  have hsf := fun (w : World) (a : Addr) (m : Mode) (b : Nat) => run_store Tryz.prog w a (.float .f64 b) m rfl
  go_enter Tryz.func219, Tryz.ntmps219
  go_wp2_with fail
  refine (Q1.out _ HCP.out).mono ?_
  rintro _ wA ⟨rfl, hra, hoa⟩
  have HRG := Lib.hid (RdR.offS ((HR.out.below HW0.out).below (alloc1 _ _)) HCP.out hoa hne)
  have HA := Lib.hid hra
  have HOA := Lib.hid (hoa.to_below (B := w.heap.size + 1) (by simp) (Nat.le_refl _))
  clear hc0 hc1 hf hgl hra hoa
  go_wp2_with fail
  refine (Err_any (w.heap.size + 1) r1 0 wA HA.out).mono ?_
  rintro _ w' ⟨rfl, rfl⟩
  obtain ⟨A1, c1, hbt1, -, -, -, hd0, hd1, -, -⟩ := HA.out.open
  obtain ⟨A2, c2, -, -, -, -, hg0, hg1, hgf, hgl⟩ := HRG.out.open
  have hN := (HOA.out.block w.heap.size (by omega)).trans (((alloc1 _ _).block w.heap.size (by simp)).trans HN0.out)
  have HBN := Lib.hid hN
  have hsz : w.heap.size < wA.heap.size := (Array.getElem?_eq_some_iff.1 hN).1
  have hv0 := (cell_of_row wA w.heap.size 0 _ _ (0, 0) hN).trans rfl
  have hv1 := (cell_of_row wA w.heap.size 1 _ _ (0, 0) hN).trans rfl
  have hv2 := (cell_of_row wA w.heap.size 2 _ _ (0, 0) hN).trans rfl
  have hv3 := (cell_of_row wA w.heap.size 3 _ _ (0, 0) hN).trans rfl
  have hv4 := (cell_of_row wA w.heap.size 4 _ _ (0, 0) hN).trans rfl
  have hvf : ∀ j, wA.frozen? ⟨w.heap.size, j, none⟩ = false := fun j => by
    have h := HBN.out
    simp [World.frozen?, h]
  clear hN
  have HBT := Lib.hid hbt1
  have HOG := Lib.hid (HOA.out.mono (by omega : w.heap.size ≤ w.heap.size + 1))
  clear hbt1
  go_wp2
  refine bodyPost_ret (v := pairVE vZero 0) (by simp [results, Tryz.results219, go_sem, hv0, hv1, hv2, hv3, hv4, hsz, hne2]) rfl ?_
  refine GetP.mk rfl (HRG.out.back HBT.out) ?_ HG.out (by rw [Below.heap_setCell _ _ _ _ hne2, Below.heap_setCell _ _ _ _ hne2]; exact HBN.out) _ _ _ _ _
  exact (((Only.refl g w).below ((HW0.out.trans ((alloc1 _ _).mono (by simp))).trans HOG.out)).set _ _).set _ _
set_option maxHeartbeats 2000000 in
theorem readVal_no1 (g : Nat) (rest : List UInt8) (e : Int) (n : Nat) (r1 : List UInt8) (e1 : Int) (hst : stepF 8 alInt rest e = (n, r1, e1)) (hz : wrap64 (n : Int) ≠ 0) (v : Vl) (er : Int) (rest2 : List UInt8) (err : Int) (w : World) (hr : RdR w g rest e)
    (hq : ∀ W, RdR W g rest e → Calls Tryz.prog 143 #[.pointer (some ⟨g, 0, none⟩)] W (GetP g v er rest2 err W)) :
    Calls Tryz.prog 219 #[.pointer (some ⟨g, 0, none⟩)] w (GetP g v er rest2 err w) := by
  obtain ⟨A, c, hbt, -, -, -, hc0, hc1, hf, hgl⟩ := hr.open
  have HW0 := Lib.hid (alloc1 w (.cells #[.int .i64 0, .int .i64 0, .bool false, .string ⟨#[]⟩, .float .f64 0] 53))
  have HN0 := Lib.hid (heap_alloc_new w (.cells #[.int .i64 0, .int .i64 0, .bool false, .string ⟨#[]⟩, .float .f64 0] 53))
  have HCP := Lib.hid (RdR.copy (W := w.alloc (.cells #[.int .i64 0, .int .i64 0, .bool false, .string ⟨#[]⟩, .float .f64 0] 53)) (e := e) (Bt.below hbt HW0.out (Nat.le_refl _)) (w.heap.size + 1) (by simp))
  have q1 : ∀ W, RdR W (w.heap.size + 1) rest e → Calls Tryz.prog 140 #[.pointer (some ⟨w.heap.size + 1, 0, none⟩)] W (Did (w.heap.size + 1) (.int .i64 (wrap64 (n : Int))) r1 e1 W) := fun W h => by
    have h := Int_any (w.heap.size + 1) rest e W h
    rw [hst] at h
    exact h
  have hzb : (wrap64 (n : Int) != 0) = true := by simpa using hz
  clear hz
  have Q1 := Lib.hid q1
  have HQ := Lib.hid hq
  have HR := Lib.hid hr
  have HG := Lib.hid hgl
  have hne : g ≠ w.heap.size + 1 := by omega
  have hne2 : w.heap.size ≠ g := by omega
  clear hst hr hbt q1 hq
  have hsf := fun (w : World) (a : Addr) (m : Mode) (b : Nat) => run_store Tryz.prog w a (.float .f64 b) m rfl
  go_enter Tryz.func219, Tryz.ntmps219
  go_wp2_with fail
  refine (Q1.out _ HCP.out).mono ?_
  rintro _ wA ⟨rfl, hra, hoa⟩
  have HRG := Lib.hid (RdR.offS ((HR.out.below HW0.out).below (alloc1 _ _)) HCP.out hoa hne)
  have HA := Lib.hid hra
  have HOA := Lib.hid (hoa.to_below (B := w.heap.size + 1) (by simp) (Nat.le_refl _))
  clear hc0 hc1 hf hgl hra hoa
  have hN := (HOA.out.block w.heap.size (by omega)).trans (((alloc1 _ _).block w.heap.size (by simp)).trans HN0.out)
  have HBN := Lib.hid hN
  have HSZ := Lib.hid (Array.getElem?_eq_some_iff.1 hN).1
  have HOG := Lib.hid ((HW0.out.trans ((alloc1 _ _).mono (by simp))).trans (HOA.out.mono (by omega : w.heap.size ≤ w.heap.size + 1)))
  clear hN
  go_wp2_with fail
  refine (HQ.out _ HRG.out).mono ?_
  rintro _ wB ⟨rfl, hrb, hob⟩
  have hN := (hob.block w.heap.size HSZ.out (by intro e; injection e with e; exact hne2 e)).trans HBN.out
  have HBM := Lib.hid hN
  have hsz : w.heap.size < wB.heap.size := (Array.getElem?_eq_some_iff.1 hN).1
  have hv0 := (cell_of_row wB w.heap.size 0 _ _ (0, 0) hN).trans rfl
  have hv1 := (cell_of_row wB w.heap.size 1 _ _ (0, 0) hN).trans rfl
  have hv2 := (cell_of_row wB w.heap.size 2 _ _ (0, 0) hN).trans rfl
  have hv3 := (cell_of_row wB w.heap.size 3 _ _ (0, 0) hN).trans rfl
  have hv4 := (cell_of_row wB w.heap.size 4 _ _ (0, 0) hN).trans rfl
  have hvf : ∀ j, wB.frozen? ⟨w.heap.size, j, none⟩ = false := fun j => by
    have h := HBM.out
    simp [World.frozen?, h]
  have HRB := Lib.hid hrb
  have HOB := Lib.hid (Only.trans' HOG.out hob)
  clear hN hrb hob
  go_wp2
  exact bodyPost_ret (v := pairVE v er) (by simp [results, Tryz.results219, go_sem, hv0, hv1, hv2, hv3, hv4, hsz]) rfl (GetP.mk rfl HRB.out HOB.out HG.out HBM.out _ _ _ _ _)

set_option maxHeartbeats 2000000 in
theorem readVal_no2 (g : Nat) (rest : List UInt8) (e : Int) (n : Nat) (r1 : List UInt8) (e1 : Int) (hst : stepF 8 alInt rest e = (n, r1, e1)) (hz : wrap64 (n : Int) = 0) (he : e1 ≠ 0) (v : Vl) (er : Int) (rest2 : List UInt8) (err : Int) (w : World) (hr : RdR w g rest e)
    (hq : ∀ W, RdR W g rest e → Calls Tryz.prog 143 #[.pointer (some ⟨g, 0, none⟩)] W (GetP g v er rest2 err W)) :
    Calls Tryz.prog 219 #[.pointer (some ⟨g, 0, none⟩)] w (GetP g v er rest2 err w) := by
  obtain ⟨A, c, hbt, -, -, -, hc0, hc1, hf, hgl⟩ := hr.open
  have HW0 := Lib.hid (alloc1 w (.cells #[.int .i64 0, .int .i64 0, .bool false, .string ⟨#[]⟩, .float .f64 0] 53))
  have HN0 := Lib.hid (heap_alloc_new w (.cells #[.int .i64 0, .int .i64 0, .bool false, .string ⟨#[]⟩, .float .f64 0] 53))
  have HCP := Lib.hid (RdR.copy (W := w.alloc (.cells #[.int .i64 0, .int .i64 0, .bool false, .string ⟨#[]⟩, .float .f64 0] 53)) (e := e) (Bt.below hbt HW0.out (Nat.le_refl _)) (w.heap.size + 1) (by simp))
  have q1 : ∀ W, RdR W (w.heap.size + 1) rest e → Calls Tryz.prog 140 #[.pointer (some ⟨w.heap.size + 1, 0, none⟩)] W (Did (w.heap.size + 1) (.int .i64 (wrap64 (n : Int))) r1 e1 W) := fun W h => by
    have h := Int_any (w.heap.size + 1) rest e W h
    rw [hst] at h
    exact h
  have hzb : (wrap64 (n : Int) != 0) = false := by simpa using hz
  have heb : (e1 != 0) = true := by simpa using he
  clear hz he
  have Q1 := Lib.hid q1
  have HQ := Lib.hid hq
  have HR := Lib.hid hr
  have HG := Lib.hid hgl
  have hne : g ≠ w.heap.size + 1 := by omega
  have hne2 : w.heap.size ≠ g := by omega
  clear hst hr hbt q1 hq
  have hsf := fun (w : World) (a : Addr) (m : Mode) (b : Nat) => run_store Tryz.prog w a (.float .f64 b) m rfl
  go_enter Tryz.func219, Tryz.ntmps219
  go_wp2_with fail
  refine (Q1.out _ HCP.out).mono ?_
  rintro _ wA ⟨rfl, hra, hoa⟩
  have HRG := Lib.hid (RdR.offS ((HR.out.below HW0.out).below (alloc1 _ _)) HCP.out hoa hne)
  have HA := Lib.hid hra
  have HOA := Lib.hid (hoa.to_below (B := w.heap.size + 1) (by simp) (Nat.le_refl _))
  clear hc0 hc1 hf hgl hra hoa
  go_wp2_with fail
  refine (Err_any (w.heap.size + 1) r1 e1 wA HA.out).mono ?_
  rintro _ w' ⟨rfl, rfl⟩
  have hN := (HOA.out.block w.heap.size (by omega)).trans (((alloc1 _ _).block w.heap.size (by simp)).trans HN0.out)
  have HBN := Lib.hid hN
  have HSZ := Lib.hid (Array.getElem?_eq_some_iff.1 hN).1
  have HOG := Lib.hid ((HW0.out.trans ((alloc1 _ _).mono (by simp))).trans (HOA.out.mono (by omega : w.heap.size ≤ w.heap.size + 1)))
  clear hN
  go_wp2_with fail
  refine (HQ.out _ HRG.out).mono ?_
  rintro _ wB ⟨rfl, hrb, hob⟩
  have hN := (hob.block w.heap.size HSZ.out (by intro e; injection e with e; exact hne2 e)).trans HBN.out
  have HBM := Lib.hid hN
  have hsz : w.heap.size < wB.heap.size := (Array.getElem?_eq_some_iff.1 hN).1
  have hv0 := (cell_of_row wB w.heap.size 0 _ _ (0, 0) hN).trans rfl
  have hv1 := (cell_of_row wB w.heap.size 1 _ _ (0, 0) hN).trans rfl
  have hv2 := (cell_of_row wB w.heap.size 2 _ _ (0, 0) hN).trans rfl
  have hv3 := (cell_of_row wB w.heap.size 3 _ _ (0, 0) hN).trans rfl
  have hv4 := (cell_of_row wB w.heap.size 4 _ _ (0, 0) hN).trans rfl
  have hvf : ∀ j, wB.frozen? ⟨w.heap.size, j, none⟩ = false := fun j => by
    have h := HBM.out
    simp [World.frozen?, h]
  have HRB := Lib.hid hrb
  have HOB := Lib.hid (Only.trans' HOG.out hob)
  clear hN hrb hob
  go_wp2
  exact bodyPost_ret (v := pairVE v er) (by simp [results, Tryz.results219, go_sem, hv0, hv1, hv2, hv3, hv4, hsz]) rfl (GetP.mk rfl HRB.out HOB.out HG.out HBM.out _ _ _ _ _)

theorem rv_get (rest : List UInt8) (e : Int) (n : Nat) (r1 : List UInt8) (e1 : Int) (hst : stepF 8 alInt rest e = (n, r1, e1)) (h : ¬ (wrap64 (n : Int) = 0 ∧ e1 = 0)) : rvF rest e = (getV rest e, (readF rest e).2.1, getE rest e) := by
  by_cases he : e = 0
  · subst he
    rw [rvF_0]
    refine zeroF_no rest ?_
    rw [hst]
    exact h
  · rw [rvF_err rest e he]
    have h1 : stepF 8 alInt rest e = (0, rest, e) := by unfold stepF; rw [if_pos he]
    have h2 : readF rest e = (vZero, rest, e) := readF_0 h1 (by unfold wrap64; omega) (by unfold wrap64; omega) (by unfold wrap64; omega) (by unfold wrap64; omega)
    obtain ⟨a1, a2, a3, -⟩ := get_no h2 he
    rw [a1, a2, a3]
theorem rv_zero (rest : List UInt8) (e : Int) (n : Nat) (r1 : List UInt8) (hst : stepF 8 alInt rest e = (n, r1, 0)) (h : wrap64 (n : Int) = 0) : rvF rest e = (vZero, r1, 0) := by
  by_cases he : e = 0
  · subst he
    rw [rvF_0]
    have h3 := zeroF_yes rest (by rw [hst]; exact ⟨h, rfl⟩)
    rw [hst] at h3
    exact h3
  · have h1 : stepF 8 alInt rest e = (0, rest, e) := by unfold stepF; rw [if_pos he]
    rw [h1] at hst
    injection hst with h4 h5
    injection h5 with h5 h6
    exact absurd h6 he
theorem getE_no (rest : List UInt8) (e : Int) (h0 : ¬ (readF rest e).2.2 = 0) : getE rest e = (readF rest e).2.2 := if_neg h0
theorem getE_ok (rest : List UInt8) (e : Int) (h : getE rest e = 0) : (readF rest e).2.2 = 0 := by
  by_cases h0 : (readF rest e).2.2 = 0
  · exact h0
  · exact (getE_no rest e h0).symm.trans h
/-- what readVal leaves -/
def RvP (g : Nat) (v : Vl) (er : Int) (rest : List UInt8) (w : World) (e : Ending) (w' : World) : Prop := e = .returned (pairVE v er) ∧ (∃ r' e', RdR w' g r' e' ∧ (er = 0 → r' = rest ∧ e' = 0)) ∧ Only g w w'
theorem RvP.of {g : Nat} {q : Vl × List UInt8 × Int} {v : Vl} {er : Int} {rest : List UInt8} {w : World} {e : Ending} {w' : World} (hq : q = (v, rest, er)) (h : RvP g v er rest w e w') : RvP g q.1 q.2.2 q.2.1 w e w' := by
  subst hq
  exact h
theorem GetP.rv {g : Nat} {v : Vl} {er : Int} {rest : List UInt8} {err : Int} {w : World} {e : Ending} {w' : World} (h : GetP g v er rest err w e w') (hok : er = 0 → err = 0) : RvP g v er rest w e w' := ⟨h.1, ⟨_, _, h.2.1, fun h0 => ⟨rfl, hok h0⟩⟩, h.2.2⟩
theorem readVal_any (g : Nat) (rest : List UInt8) (e : Int) (w : World) (hr : RdR w g rest e) (hlen : rest.length ≤ 1000000000000) :
    Calls Tryz.prog 219 #[.pointer (some ⟨g, 0, none⟩)] w (RvP g (rvF rest e).1 (rvF rest e).2.2 (rvF rest e).2.1 w) := by
  have hq : ∀ W, RdR W g rest e → Calls Tryz.prog 143 #[.pointer (some ⟨g, 0, none⟩)] W (GetP g (getV rest e) (getE rest e) (readF rest e).2.1 (readF rest e).2.2 W) := fun W h => Get_any g rest e W h hlen
  have hok := getE_ok rest e
  rcases hst : stepF 8 alInt rest e with ⟨n, r1, e1⟩
  by_cases h : wrap64 (n : Int) = 0 ∧ e1 = 0
  · obtain ⟨h1, h2⟩ := h
    subst h2
    exact (readVal_yes g rest e n r1 hst h1 w hr).mono fun _ _ h => RvP.of (rv_zero rest e n r1 hst h1) (h.rv fun _ => rfl)
  · by_cases h1 : wrap64 (n : Int) = 0
    · exact (readVal_no2 g rest e n r1 e1 hst h1 (fun h2 => h ⟨h1, h2⟩) _ _ _ _ w hr hq).mono fun _ _ k => RvP.of (rv_get rest e n r1 e1 hst h) (k.rv hok)
    · exact (readVal_no1 g rest e n r1 e1 hst h1 _ _ _ _ w hr hq).mono fun _ _ k => RvP.of (rv_get rest e n r1 e1 hst h) (k.rv hok)
end Go.Proofs.YthgdnpcfdgimlabGreat

/- Layer 5: what stands between the steps of reading an expression. -/
namespace Go.Proofs.YthgdnpcfdgimlabGreat
open Go.RowKit
set_option linter.unusedVariables false
set_option linter.unusedSimpArgs false
set_option maxRecDepth 20000

/-- bytes stay where blocks of bytes stay -/
theorem Bt.keep {w w' : World} {v : Value} {l : List UInt8} (h : Bt w v l) (hz : w.heap.size ≤ w'.heap.size) (hk : ∀ (k : Nat) (cs : Array Value) (fr : Nat × Nat), w.heap[k]? = some (Obj.cells cs 5 fr) → w'.heap[k]? = w.heap[k]?) : Bt w' v l := by
  obtain ⟨⟨A, c, hv, hc, hm, hn, hx⟩, hy⟩ := h
  by_cases hl : l = []
  · subst hl
    exact ⟨⟨A, c, hv, hc, hm, hn, fun he => absurd rfl he⟩, fun he => absurd rfl he⟩
  · have hl' : l.map bc ≠ [] := by simpa using hl
    obtain ⟨ad, ha, hb, hr⟩ := hx hl'
    have hown : v.ownBlock = some ad.block := by rw [hv, ha]; rfl
    obtain ⟨cs2, fr2, hty⟩ := hy hl ad.block hown
    have hblk := hk _ _ _ hty
    refine ⟨⟨A, c, hv, hc, hm, hn, fun _ => ⟨ad, ha, Nat.lt_of_lt_of_le hb hz, fun j u hu => ?_⟩⟩, fun _ k hkk => ?_⟩
    · have hb2 : (ad.add j).block = ad.block := block_add ad j
      exact (World.cell?_of_block (w := w) (w' := w') (a := ad.add j) (by rw [hb2]; exact hblk)).trans (hr j u hu)
    · rw [hown] at hkk
      injection hkk with hkk
      subst hkk
      exact ⟨cs2, fr2, hblk.trans hty⟩
theorem RdR.keep {w w' : World} {g : Nat} {rest : List UInt8} {e : Int} (h : RdR w g rest e) (hz : w.heap.size ≤ w'.heap.size) (hg : w'.heap[g]? = w.heap[g]?) (hk : ∀ (k : Nat) (cs : Array Value) (fr : Nat × Nat), w.heap[k]? = some (Obj.cells cs 5 fr) → w'.heap[k]? = w.heap[k]?) : RdR w' g rest e := by
  obtain ⟨rv, hh, hb⟩ := h
  exact ⟨rv, hg.trans hh, hb.keep hz hk⟩
/-- a block of another type is another block -/
theorem other_block {w : World} {k N : Nat} {cs cs' : Array Value} {t t' : TypeId} {fr fr' : Nat × Nat} (hk : w.heap[k]? = some (.cells cs t fr)) (hN : w.heap[N]? = some (.cells cs' t' fr')) (ht : t ≠ t') : k ≠ N := by
  rintro rfl
  rw [hN] at hk
  injection hk with hk
  injection hk with h1 h2
  exact ht h2.symm
theorem RdR.offT {w w' : World} {N g : Nat} {rest : List UInt8} {err : Int} {cs : Array Value} {t : TypeId} {fr : Nat × Nat} (h : RdR w g rest err) (ho : Only N w w') (hne : g ≠ N) (hN : w.heap[N]? = some (.cells cs t fr)) (ht : t ≠ 5) : RdR w' g rest err := by
  have hlt := h.lt
  refine h.keep ho.size (ho.block g hlt (by intro e; injection e with e; exact hne e)) fun k cs2 fr2 hk => ho.block k (Array.getElem?_eq_some_iff.1 hk).1 (by intro e; injection e with e; exact other_block hk hN (fun e => ht e.symm) e)

/-- the count of parts, as a block -/
def SzB (w : World) (s : Nat) (n : Int) : Prop := w.heap[s]? = some (.cells #[.int .i64 n] 170 (0, 0))
theorem SzB.sz {w : World} {s : Nat} {n : Int} (h : SzB w s n) : Sz w s n := by
  unfold SzB at h
  exact ⟨(cell_of_row w s 0 _ _ (0, 0) h).trans rfl, by simp [World.frozen?, h], (Array.getElem?_eq_some_iff.1 h).1⟩
theorem SzB.lt {w : World} {s : Nat} {n : Int} (h : SzB w s n) : s < w.heap.size := (Array.getElem?_eq_some_iff.1 h).1
theorem SzB.at {w w' : World} {s : Nat} {n : Int} (h : SzB w s n) (hb : w'.heap[s]? = w.heap[s]?) : SzB w' s n := hb.trans h
theorem SzB.set {w : World} {s : Nat} {n : Int} (h : SzB w s n) (m : Int) : SzB (w.setCell ⟨s, 0, none⟩ (.int .i64 m)) s m := by
  unfold SzB at h ⊢
  simp [World.setCell, Array.getElem?_modify, h]
theorem SzB.only {w w' : World} {s g : Nat} {n : Int} (h : SzB w s n) (ho : Only g w w') (hne : s ≠ g) : SzB w' s n := h.at (ho.block s h.lt (by intro e; injection e with e; exact hne e))
theorem SzB.below {w w' : World} {s : Nat} {n : Int} (h : SzB w s n) (hb : Below w.heap.size w w') : SzB w' s n := h.at (hb.block s h.lt)
theorem grow_set (g : Nat) (n deep : Int) (w : World) (h : Sz w g n) (h0 : 0 ≤ n) (h1 : n ≤ 24) : Calls Tryz.prog 192 #[.pointer (some ⟨g, 0, none⟩), .int .i64 deep] w fun e w' => e = .returned (.bool (decide (n + 1 ≤ 24) && decide (deep ≤ 6))) ∧ w' = w.setCell ⟨g, 0, none⟩ (.int .i64 (n + 1)) := by
  have hw : IntKind.i64.wrap (n + 1) = n + 1 := by rw [IntKind.wrap_i64]; omega
  have HSET := Lib.hid (World.cell?_setCell_same w ⟨g, 0, none⟩ (.int .i64 (n + 1)) h.1)
  obtain ⟨hc, hf, hl⟩ := h
  by_cases hn : n + 1 ≤ 24
  · have hr : (decide (n + 1 ≤ 24) && decide (deep ≤ 6)) = decide (deep ≤ 6) := by simp [hn]
    rw [hr]
    go_enter Tryz.func192, Tryz.ntmps192
    go_wp2
    go_ret
    exact ⟨rfl, rfl⟩
  · have hr : (decide (n + 1 ≤ 24) && decide (deep ≤ 6)) = false := by simp; intro h; omega
    rw [hr]
    go_enter Tryz.func192, Tryz.ntmps192
    go_wp2
    go_ret
    exact ⟨rfl, rfl⟩

def z8 : Array Value := #[.int .i64 0, .slice none 0 0, .string ⟨#[]⟩, .int .i64 0, .int .i64 0, .bool false, .string ⟨#[]⟩, .float .f64 0]
/-- all eight cells of a block -/
abbrev set8 (W : World) (b : Nat) (u0 u1 u2 u3 u4 u5 u6 u7 : Value) : World :=
  (((((((W.setCell ⟨b, 0, none⟩ u0).setCell ⟨b, 1, none⟩ u1).setCell ⟨b, 2, none⟩ u2).setCell ⟨b, 3, none⟩ u3).setCell ⟨b, 4, none⟩ u4).setCell ⟨b, 5, none⟩ u5).setCell ⟨b, 6, none⟩ u6).setCell ⟨b, 7, none⟩ u7
theorem set8_only (W : World) (b : Nat) (u0 u1 u2 u3 u4 u5 u6 u7 : Value) : Only b W (set8 W b u0 u1 u2 u3 u4 u5 u6 u7) :=
  ((((((((Only.refl b W).set 0 u0).set 1 u1).set 2 u2).set 3 u3).set 4 u4).set 5 u5).set 6 u6).set 7 u7
theorem Twb.new {g s k : Nat} {a w w' : World} (h : Twb g s a w) (ho : Only k w w') (hk : a.heap.size ≤ k) : Twb g s a w' :=
  ⟨ho.os.trans h.os, ho.tape.trans h.tape, ho.output.trans h.output, Nat.le_trans h.size ho.size, fun m hm h1 h2 => (ho.block m (Nat.lt_of_lt_of_le hm h.size) (by intro e; injection e with e; omega)).trans (h.block m hm h1 h2)⟩
theorem heap_at {w : World} {b : Nat} {cs : Array Value} {t : TypeId} (h : w.heap[b]? = some (.cells cs t (0, 0))) (j : Nat) : w.cell? ⟨b, j, none⟩ = cs[j]? := cell_of_row w b j _ _ (0, 0) h
theorem heap_free {w : World} {b : Nat} {cs : Array Value} {t : TypeId} (h : w.heap[b]? = some (.cells cs t (0, 0))) (j : Nat) : w.frozen? ⟨b, j, none⟩ = false := by simp [World.frozen?, h]

/-- an expression that was not read -/
abbrev agZ : Value := .agg #[.int .i64 0, .slice none 0 0, .string ⟨#[]⟩, .int .i64 0, .int .i64 0, .bool false, .string ⟨#[]⟩, .float .f64 0]
def RpE (g s : Nat) (er : Int) (w : World) (e : Ending) (w' : World) : Prop := e = .returned (.tuple #[agZ, .int .i64 er]) ∧ (∃ r' e', RdR w' g r' e') ∧ Twb g s w w'
def RpO (g s d : Nat) (x : Ex × Int × List UInt8) (w : World) (e : Ending) (w' : World) : Prop :=
  ∃ A c, e = .returned (.tuple #[agX x.1.op A x.1.kids.length c x.1.name x.1.val, .int .i64 0]) ∧ ExS (fun b => w.heap.size ≤ b) w' d A c x.1 ∧ RdR w' g x.2.2 0 ∧ SzB w' s (24 - x.2.1) ∧ Twb g s w w'
/-- what readParts leaves -/
def RpP (g s d : Nat) (x : Except Int (Ex × Int × List UInt8)) (w : World) (e : Ending) (w' : World) : Prop := match x with
  | .error er => RpE g s er w e w'
  | .ok y => RpO g s d y w e w'
theorem RpE.mk {g s b6 : Nat} {er e' : Int} {r' : List UInt8} {w W : World} {cs : Array Value} (hr : RdR W g r' e') (ht : Twb g s w W) (hz : W.heap[b6]? = some (.cells cs 58 (0, 0))) (hb : w.heap.size ≤ b6) (hg : g ≠ b6) (u0 u1 u2 u3 u4 u5 u6 u7 : Value) :
    RpE g s er w (.returned (.tuple #[agZ, .int .i64 er])) (set8 W b6 u0 u1 u2 u3 u4 u5 u6 u7) :=
  ⟨rfl, ⟨_, _, hr.offT (set8_only _ _ _ _ _ _ _ _ _ _) hg hz (by decide)⟩, ht.new (set8_only _ _ _ _ _ _ _ _ _ _) hb⟩
theorem RpO.mk {g s d b6 c : Nat} {n : Int} {r : List UInt8} {x : Ex} {A : Option Addr} {w W : World} {cs : Array Value} (hx : ExS (fun b => b6 < b) W d A c x) (hr : RdR W g r 0) (hs : SzB W s (24 - n)) (ht : Twb g s w W) (hz : W.heap[b6]? = some (.cells cs 58 (0, 0))) (hb : w.heap.size ≤ b6) (hg : g ≠ b6) (hsb : s ≠ b6) (u0 u1 u2 u3 u4 u5 u6 u7 : Value) :
    RpO g s d (x, n, r) w (.returned (.tuple #[agX x.op A x.kids.length c x.name x.val, .int .i64 0])) (set8 W b6 u0 u1 u2 u3 u4 u5 u6 u7) := by
  have ho := set8_only W b6 u0 u1 u2 u3 u4 u5 u6 u7
  exact ⟨A, c, rfl, hx.move (fun b hb2 hl => ⟨ho.block b hl (by intro e; injection e with e; omega), by omega⟩) ho.size, hr.offT ho hg hz (by decide), hs.only ho hsb, ht.new ho hb⟩

/-- between the steps: the result's block is empty, the part at hand lies at b8 -/
structure Fr (w : World) (g s b6 b8 : Nat) (W : World) (cs : Array Value) : Prop where
  z : W.heap[b6]? = some (.cells z8 58 (0, 0))
  x : W.heap[b8]? = some (.cells cs 58 (0, 0))
  t : Twb g s w W
theorem Fr.two {w : World} {g s b6 b8 : Nat} {W W' : World} {cs : Array Value} (h : Fr w g s b6 b8 W cs) (k : Twb g s W W') (h1 : b6 ≠ g) (h2 : b6 ≠ s) (h3 : b8 ≠ g) (h4 : b8 ≠ s) : Fr w g s b6 b8 W' cs :=
  ⟨(k.block b6 (Array.getElem?_eq_some_iff.1 h.z).1 h1 h2).trans h.z, (k.block b8 (Array.getElem?_eq_some_iff.1 h.x).1 h3 h4).trans h.x, h.t.trans k⟩
theorem Fr.set {w : World} {g s b6 b8 : Nat} {W : World} {cs : Array Value} (h : Fr w g s b6 b8 W cs) (h68 : b6 ≠ b8) (hb : w.heap.size ≤ b8) (j : Nat) (u : Value) : Fr w g s b6 b8 (W.setCell ⟨b8, j, none⟩ u) (cs.setIfInBounds j u) := by
  refine ⟨(Below.heap_setCell W _ u b6 h68).trans h.z, ?_, h.t.setNew hb j u⟩
  have hx := h.x
  simp [World.setCell, Array.getElem?_modify, hx]

/-- append of rows of structs, as a step of the walk -/
theorem wpList_append_rows {P : Program} {w : World} {ops : Array Oper} {rest : List Oper} {o : Oper} {a : Act} {Q : Exit → Act → World → Prop} (hgd : o.guard = none) (s x : Operand) (t : TypeId)
    (ho : o.op = .call { callee := .builtin .append, args := #[s, x], argTypes := #[t, t] })
    (base : Nat) (e : TypeId) (i : TypeInfo) (z : Value) (size bytes : Nat) (ht : P.underlying t = some (.slice e)) (hi : P.info? e = some i) (hz : i.zero = some z)
    (hsize : i.size = size) (hby : i.bytes = bytes) (hzs : z.cells.size = size) (hpos : 0 < size)
    (v : Value) (n : Nat) (xs : List Value) (hs : a.eval s = v) (hown : w.ownsRow base e size v n xs)
    (y : Value) (m : Nat) (news : List Value) (hx : a.eval x = y) (hr : RowS w size y m news) (h1 : ∀ u ∈ news, u.oneCell' = true)
    (h63 : n + m ≤ maxLen) (hbytes : (n + m) * bytes ≤ 140737488355328) (hbase : base ≤ w.heap.size)
    (h : ∀ v' w', w'.ownsRow base e size v' (n + m) (xs ++ news) → w.grownBy w' v.ownBlock → (v'.ownBlock = v.ownBlock ∨ v'.ownBlock = some w.heap.size) → wpList P ops Q rest (a.put o.dst v') w') : wpList P ops Q (o :: rest) a w :=
  wpList_plain hgd fun K hK => by
    obtain ⟨v', w', hrun, h2, h3, h4⟩ := run_append_rows (P := P) base t o.type e i z size bytes ht hi hz hsize hby hzs hpos v n xs hown y m news hr h1 h63 hbytes hbase
    unfold Oper.wp execOp
    simp only [ho, resolve, invoke, builtin, Sem.run_bind, Sem.run_pure, Result.andThen_ok, List.map_toArray, List.map_cons, List.map_nil, hs, hx, hrun]
    exact hK _ _ (h v' w' h2 h3 h4)

/-- what holds ahead of each kid -/
structure RpI (F : Int → List UInt8 → Except Int (Ex × Int × List UInt8)) (w : World) (g s b6 b8 d c : Nat) (L : Except Int (List Ex × Int × List UInt8)) (op : Int) (nm : ByteArray) (v : Vl) (wr : World) (k : Nat) (qs : List Kx) (nk : Int) (rk : List UInt8) (row : Value) : Prop where
  pre : pre (qs.map Kx.e) (getL F (c - k) nk rk) = L
  n0 : 0 ≤ nk
  n1 : nk ≤ 24
  len : rk.length ≤ 1000000000000
  rd : RdR wr g rk 0
  sz : SzB wr s (24 - nk)
  fr : Fr w g s b6 b8 wr #[.int .i64 op, row, .string nm, .int .i64 v.k, .int .i64 v.i, .bool v.b, .string v.s, .float .f64 v.n]
  own : wr.ownsRow (b8 + 1) 58 8 row k (qs.flatMap Kx.cells)
  kids : ∀ q ∈ qs, ExS (fun b => b8 < b ∧ row.ownBlock ≠ some b) wr d q.A q.c q.e
theorem RpI.next {F : Int → List UInt8 → Except Int (Ex × Int × List UInt8)} {w : World} {g s b6 b8 d c : Nat} {L : Except Int (List Ex × Int × List UInt8)} {op : Int} {nm : ByteArray} {v : Vl} {wr w2 w4 : World} {k : Nat} {qs : List Kx} {nk n1 : Int} {rk r1 : List UInt8} {row row' : Value} {kid : Ex} {A : Option Addr} {cc : Nat} {o1 o2 : Obj}
    (h : RpI F w g s b6 b8 d c L op nm v wr k qs nk rk row) (hk : k < c) (hx : F nk rk = .ok (kid, n1, r1)) (hbd : 0 ≤ n1 ∧ n1 ≤ nk ∧ r1.length ≤ rk.length) (hgw : g < w.heap.size) (hsw : s < w.heap.size) (h6 : w.heap.size ≤ b6) (h68 : b6 < b8)
    (hex : ExS (fun b => wr.heap.size ≤ b) w2 d A cc kid) (hrd : RdR w2 g r1 0) (hsz : SzB w2 s (24 - n1)) (htw : Twb g s wr w2)
    (hown : w4.ownsRow (b8 + 1) 58 8 row' (k + 1) (qs.flatMap Kx.cells ++ (Kx.mk kid A cc).cells)) (hgr : ((w2.alloc o1).alloc o2).grownBy w4 row.ownBlock) (hrow : row'.ownBlock = row.ownBlock ∨ row'.ownBlock = some ((w2.alloc o1).alloc o2).heap.size) :
    RpI F w g s b6 b8 d c L op nm v (w4.setCell ⟨b8, 1, none⟩ row') (k + 1) (qs ++ [Kx.mk kid A cc]) n1 r1 row' := by
  obtain ⟨b0, b1, b2⟩ := hbd
  have hb8 : b8 < wr.heap.size := (Array.getElem?_eq_some_iff.1 h.fr.x).1
  have hb6 : b6 < wr.heap.size := (Array.getElem?_eq_some_iff.1 h.fr.z).1
  have hz2 := htw.size
  have hz3 : ((w2.alloc o1).alloc o2).heap.size = w2.heap.size + 2 := by simp
  have hz4 := hgr.size
  have hrow0 := h.own.lt
  -- a block that is none of those that were written
  have hkeep : ∀ b, b < w2.heap.size → b ≠ b8 → row.ownBlock ≠ some b → (w4.setCell ⟨b8, 1, none⟩ row').heap[b]? = w2.heap[b]? := fun b h1 h2 h3 => by
    rw [Below.heap_setCell w4 _ _ b h2, hgr.block b (by omega) (fun e => h3 e.symm)]
    exact ((alloc1 (w2.alloc o1) o2).block b (by simp; omega)).trans ((alloc1 w2 o1).block b h1)
  have hsz5 : (w4.setCell ⟨b8, 1, none⟩ row').heap.size = w4.heap.size := by simp [World.setCell]
  have h8own : row.ownBlock ≠ some b8 := fun e => by have := (hrow0 b8 e).1; omega
  have hkx : w2.heap[b8]? = some (.cells #[.int .i64 op, row, .string nm, .int .i64 v.k, .int .i64 v.i, .bool v.b, .string v.s, .float .f64 v.n] 58 (0, 0)) := (htw.block b8 hb8 (by omega) (by omega)).trans h.fr.x
  have hlow : ∀ b, b < b8 → row.ownBlock ≠ some b := fun b hb e => by have := (hrow0 b e).1; omega
  have hrowT : ∀ (b : Nat) (cs : Array Value) (fr : Nat × Nat), w2.heap[b]? = some (Obj.cells cs 5 fr) → row.ownBlock ≠ some b := fun b cs fr hb e => by
    rcases h.own.2 with ⟨rfl, -⟩ | ⟨g', cap, cur, rfl, hbase, hg', -⟩
    · cases e
    · injection e with e
      have e : g' = b := e
      subst e
      have h5 := (htw.block g' (Array.getElem?_eq_some_iff.1 hg').1 (by omega) (by omega)).trans hg'
      exact other_block hb h5 (by decide) rfl
  refine ⟨?_, b0, by have := h.n1; omega, by have := h.len; omega, ?_, ?_, ⟨?_, ?_, ?_⟩, ?_, ?_⟩
  · rw [List.map_append, List.map_cons, List.map_nil, ← h.pre, show c - k = c - (k + 1) + 1 by omega]
    exact (pre_ok hx).symm
  · exact hrd.keep (by rw [hsz5]; omega) (hkeep g (by omega) (by omega) (hlow g (by omega))) fun b cs fr hb => hkeep b (Array.getElem?_eq_some_iff.1 hb).1 (other_block hb hkx (by decide)) (hrowT b cs fr hb)
  · exact hsz.at (hkeep s (by omega) (by omega) (hlow s (by omega)))
  · exact (hkeep b6 (by omega) (by omega) (hlow b6 h68)).trans ((htw.block b6 hb6 (by omega) (by omega)).trans h.fr.z)
  · have h5 : w4.heap[b8]? = w2.heap[b8]? := (hgr.block b8 (by omega) (fun e => h8own e.symm)).trans (((alloc1 (w2.alloc o1) o2).block b8 (by simp; omega)).trans ((alloc1 w2 o1).block b8 (by omega)))
    rw [hkx] at h5
    simp [World.setCell, Array.getElem?_modify, h5]
  · have hwz := h.fr.t.size
    refine ⟨?_, ?_, ?_, by rw [hsz5]; omega, fun m hm m1 m2 => ?_⟩
    · exact hgr.os.trans (htw.os.trans h.fr.t.os)
    · exact hgr.tape.trans (htw.tape.trans h.fr.t.tape)
    · exact hgr.output.trans (htw.output.trans h.fr.t.output)
    · exact (hkeep m (by omega) (by omega) (hlow m (by omega))).trans ((htw.block m (by omega) m1 m2).trans (h.fr.t.block m hm m1 m2))
  · rw [List.flatMap_append, List.flatMap_cons, List.flatMap_nil, List.append_nil]
    exact ownsRow_setCell_below hown (a := ⟨b8, 1, none⟩) (Nat.lt_succ_self b8) row'
  · intro q hq
    rcases List.mem_append.1 hq with hq | hq
    · refine (h.kids q hq).move (fun b hb hl => ?_) (by rw [hsz5]; omega)
      refine ⟨(hkeep b (by omega) (by omega) hb.2).trans (htw.block b hl (by omega) (by omega)), hb.1, ?_⟩
      rcases hrow with e | e
      · rw [e]; exact hb.2
      · rw [e]; intro e2; injection e2 with e2; omega
    · rw [List.mem_singleton.1 hq]
      refine hex.move (fun b hb hl => ?_) (by rw [hsz5]; omega)
      have hne : row.ownBlock ≠ some b := fun e => by have := (hrow0 b e).2; omega
      refine ⟨hkeep b hl (by omega) hne, by omega, ?_⟩
      rcases hrow with e | e
      · rw [e]; exact hne
      · rw [e]; intro e2; injection e2 with e2; omega
end Go.Proofs.YthgdnpcfdgimlabGreat

/- Layer 5: reading an expression, by the program. -/
namespace Go.Proofs.YthgdnpcfdgimlabGreat
open Go.RowKit
set_option linter.unusedVariables false
set_option linter.unusedSimpArgs false
set_option maxRecDepth 20000

theorem exprinfo : (Tryz.prog.info? 58).map (fun i => (i.zero, i.size, i.bytes)) = some (some agZ, 8, 96) := by kernel_rfl
theorem infoZ {P : Program} {e : TypeId} {z : Value} {s b : Nat} (h : (P.info? e).map (fun i => (i.zero, i.size, i.bytes)) = some (some z, s, b)) : ∃ i, P.info? e = some i ∧ i.zero = some z ∧ i.size = s ∧ i.bytes = b := by
  obtain ⟨i, hi, hzz⟩ := Option.map_eq_some_iff.1 h
  simp only [Prod.mk.injEq] at hzz
  exact ⟨i, hi, hzz.1, hzz.2.1, hzz.2.2⟩
theorem step4_le (al : Int → Int) (rest : List UInt8) (e : Int) : (stepF 4 al rest e).1 ≤ 4294967295 := by
  have h := wordN_lt4 (rest.take 4) (by rw [List.length_take]; omega)
  unfold stepF
  split
  · omega
  split
  · omega
  split
  · omega
  · exact h
/-- where there is no room -/
theorem getX_none {d : Nat} {n : Int} (h : d = 0 ∨ n < 1) (rest : List UInt8) : getX d n rest = .error 51 := by
  cases d with
  | zero => rfl
  | succ d =>
    rcases h with h | h
    · cases h
    · show getXH headX (d + 1) n rest = _
      rw [getXH, if_pos h]
set_option maxHeartbeats 4000000 in
theorem readParts_none (g s : Nat) (d : Nat) (n deep : Int) (rest : List UInt8) (w : World) (hgs : g ≠ s) (hd : d ≤ 6) (hdeep : deep = 7 - d) (h0 : 0 ≤ n) (h1 : n ≤ 24) (hr : RdR w g rest 0) (hs : SzB w s (24 - n)) (hbad : d = 0 ∨ n < 1) :
    Calls Tryz.prog 185 #[.pointer (some ⟨g, 0, none⟩), .pointer (some ⟨s, 0, none⟩), .int .i64 deep] w (RpE g s 51 w) := by
  have hz := hs.below (alloc1 w (.cells z8 58))
  have hgr := grow_set s (24 - n) deep _ hz.sz (by omega) (by omega)
  have hres : (decide (24 - n + 1 ≤ 24) && decide (deep ≤ 6)) = false := by
    rcases hbad with h | h
    · subst h; simp; omega
    · simp; omega
  rw [hres] at hgr
  have hgl := hr.lt
  have hsl := hs.lt
  have hX := heap_alloc_new w (.cells z8 58)
  have hset := hz.set (24 - n + 1)
  have hon : Only s (w.alloc (.cells z8 58)) ((w.alloc (.cells z8 58)).setCell ⟨s, 0, none⟩ (.int .i64 (24 - n + 1))) := (Only.refl _ _).set _ _
  have hrd : RdR ((w.alloc (.cells z8 58)).setCell ⟨s, 0, none⟩ (.int .i64 (24 - n + 1))) g rest 0 := (hr.below (alloc1 w (.cells z8 58))).offT hon hgs hz (by decide)
  have hX2 := (hon.block w.heap.size (by simp) (by intro e; injection e with e; omega)).trans hX
  have ht : Twb g s w ((w.alloc (.cells z8 58)).setCell ⟨s, 0, none⟩ (.int .i64 (24 - n + 1))) := (Below.two (alloc1 w (.cells z8 58)) g s).trans (hon.two' g)
  have hgb : g ≠ w.heap.size := by omega
  have HGR := Lib.hid hgr
  generalize (w.alloc (.cells z8 58)).setCell ⟨s, 0, none⟩ (.int .i64 (24 - n + 1)) = w2 at *
  have HRD := Lib.hid hrd
  have HT := Lib.hid ht
  have HX := Lib.hid hX2
  have hsz : w.heap.size < w2.heap.size := (Array.getElem?_eq_some_iff.1 hX2).1
  have hv0 := (heap_at hX2 0).trans (rfl : _ = some (Value.int .i64 0))
  have hv1 := (heap_at hX2 1).trans (rfl : _ = some (Value.slice none 0 0))
  have hv2 := (heap_at hX2 2).trans (rfl : _ = some (Value.string ⟨#[]⟩))
  have hv3 := (heap_at hX2 3).trans (rfl : _ = some (Value.int .i64 0))
  have hv4 := (heap_at hX2 4).trans (rfl : _ = some (Value.int .i64 0))
  have hv5 := (heap_at hX2 5).trans (rfl : _ = some (Value.bool false))
  have hv6 := (heap_at hX2 6).trans (rfl : _ = some (Value.string ⟨#[]⟩))
  have hv7 := (heap_at hX2 7).trans (rfl : _ = some (Value.float .f64 0))
  have hvf := heap_free hX2
  clear hr hs hgr hres hbad hz hset hon hrd hX hX2 ht hdeep hd h0 h1 hgl hsl
  have hsf := fun (w : World) (a : Addr) (m : Mode) (b : Nat) => run_store Tryz.prog w a (.float .f64 b) m rfl
  go_enter Tryz.func185, Tryz.ntmps185
  go_wp2_with fail
  refine HGR.out.mono ?_
  rintro _ w' ⟨rfl, rfl⟩
  go_wp2
  exact bodyPost_ret (v := .tuple #[agZ, .int .i64 51]) (by simp [results, Tryz.results185, go_sem, hv0, hv1, hv2, hv3, hv4, hv5, hv6, hv7, hsz]) rfl (RpE.mk HRD.out HT.out HX.out (Nat.le_refl _) hgb _ _ _ _ _ _ _ _)

theorem stepF_sticky {k : Nat} {al : Int → Int} {rest r1 : List UInt8} {e : Int} {n : Nat} (h : stepF k al rest e = (n, r1, 0)) : e = 0 := by
  by_cases he : e = 0
  · exact he
  · have h1 : stepF k al rest e = (0, rest, e) := by unfold stepF; rw [if_pos he]
    rw [h1] at h
    injection h with h2 h3
    injection h3 with h3 h4
theorem bytesF_sticky {most : Int} {rest r1 m : List UInt8} {e : Int} (h : bytesF most rest e = (m, r1, 0)) : e = 0 := by
  by_cases he : e = 0
  · exact he
  · have h1 : stepF 4 (alBytes most rest) rest e = (0, rest, e) := by unfold stepF; rw [if_pos he]
    unfold bytesF at h
    rw [h1, if_pos rfl] at h
    injection h with h2 h3
    injection h3 with h3 h4
theorem getX_head_err {d : Nat} {n : Int} {rest r1 r2 r3 r4 m : List UInt8} {o c : Nat} {e1 e2 e3 er : Int} {v : Vl} (hn : ¬ n < 1) (h1 : stepF 8 alInt rest 0 = (o, r1, e1)) (h2 : stepF 4 (alCount 3) r1 e1 = (c, r2, e2)) (h3 : bytesF 16 r2 e2 = (m, r3, e3)) (h4 : rvF r3 e3 = (v, r4, er)) (h : er ≠ 0) : getX (d + 1) n rest = .error er := by
  have hh : headX rest = .error er := by
    by_cases he : e3 = 0
    · subst he
      rw [rvF_0] at h4
      exact headX_no2 h1 h2 h3 h4 h
    · rw [rvF_err _ _ he] at h4
      injection h4 with h5 h6
      injection h6 with h6 h7
      subst h7
      exact headX_no1 h1 h2 h3 he
  show getXH headX (d + 1) n rest = _
  rw [getXH, if_neg hn, hh]
theorem getX_head_ok {d : Nat} {n : Int} {rest r1 r2 r3 r4 m : List UInt8} {o c : Nat} {e1 e2 e3 : Int} {v : Vl} (hn : ¬ n < 1) (h1 : stepF 8 alInt rest 0 = (o, r1, e1)) (h2 : stepF 4 (alCount 3) r1 e1 = (c, r2, e2)) (h3 : bytesF 16 r2 e2 = (m, r3, e3)) (h4 : rvF r3 e3 = (v, r4, 0)) :
    (∀ e, getL (getX d) c (n - 1) r4 = .error e → getX (d + 1) n rest = .error e) ∧ (∀ ks n' r, getL (getX d) c (n - 1) r4 = .ok (ks, n', r) → getX (d + 1) n rest = .ok (.mk (wrap64 (o : Int)) (strB m) v ks, n', r)) := by
  have he : e3 = 0 := by
    by_cases he : e3 = 0
    · exact he
    · rw [rvF_err _ _ he] at h4
      injection h4 with h5 h6
      injection h6 with h6 h7
  subst he
  have he2 := bytesF_sticky h3
  subst he2
  have he1 := stepF_sticky h2
  subst he1
  rw [rvF_0] at h4
  have hh := headX_ok h1 h2 h3 h4
  refine ⟨fun e h => ?_, fun ks n' r h => ?_⟩
  · show getXH headX (d + 1) n rest = _
    rw [getXH, if_neg hn, hh]
    dsimp only
    rw [show getL (getXH headX d) c (n - 1) r4 = .error e from h]
  · exact getX_ok hn hh h

theorem own_twb {w w' : World} {g s base e sz n : Nat} {v : Value} {xs : List Value} (h : w.ownsRow base e sz v n xs) (ht : Twb g s w w') (hg : g < base) (hs : s < base) : w'.ownsRow base e sz v n xs := by
  have hl := h.lt
  obtain ⟨h1, h2⟩ := h
  refine ⟨h1, ?_⟩
  rcases h2 with h2 | ⟨gb, cap, cur, e1, e2, e3, e4⟩
  · exact .inl h2
  · exact .inr ⟨gb, cap, cur, e1, e2, (ht.block gb (Array.getElem?_eq_some_iff.1 e3).1 (by omega) (by omega)).trans e3, e4⟩
theorem own_sliceX {w : World} {base e sz n : Nat} {v : Value} {xs : List Value} (h : w.ownsRow base e sz v n xs) : ∃ A c, v = .slice A n c := by
  rcases h.2 with ⟨rfl, h0⟩ | ⟨gb, cap, cur, e1, -⟩
  · have hn := h.1
    exact ⟨none, 0, by rw [h0]⟩
  · exact ⟨_, _, e1⟩
set_option maxHeartbeats 8000000 in
theorem readParts_walk (g s : Nat) (d : Nat) (n deep e0 : Int) (rest : List UInt8) (w : World) (hgs : g ≠ s) (hd : d + 1 ≤ 6) (hdeep : deep = 7 - ((d + 1 : Nat) : Int)) (h0 : 1 ≤ n) (h1 : n ≤ 24) (hr : RdR w g rest e0) (hs : SzB w s (24 - n)) (F : Int → List UInt8 → Except Int (Ex × Int × List UInt8)) (hbd : ∀ n r k n' r', 0 ≤ n → F n r = .ok (k, n', r') → 0 ≤ n' ∧ n' ≤ n ∧ r'.length ≤ r.length) (hfe : ∀ n r e, F n r = .error e → e ≠ 0) (X : Except Int (Ex × Int × List UInt8)) (op : Int) (c : Nat) (m : List UInt8) (v : Vl) (er e1 e2 e3 : Int) (r1 r2 r3 r4 : List UInt8)
    (ih : ∀ n rest w, 0 ≤ n → n ≤ 24 → RdR w g rest 0 → SzB w s (24 - n) → rest.length ≤ 1000000000000 → Calls Tryz.prog 185 #[.pointer (some ⟨g, 0, none⟩), .pointer (some ⟨s, 0, none⟩), .int .i64 (deep + 1)] w (RpP g s d (F n rest) w))
    (q1 : ∀ W, RdR W g rest e0 → Calls Tryz.prog 140 #[.pointer (some ⟨g, 0, none⟩)] W (Did g (.int .i64 op) r1 e1 W))
    (q2 : ∀ W, RdR W g r1 e1 → Calls Tryz.prog 139 #[.pointer (some ⟨g, 0, none⟩), .int .i64 3] W (Did g (.int .i64 c) r2 e2 W)) (hc4 : c ≤ 4294967295)
    (q3 : ∀ W, RdR W g r2 e2 → Calls Tryz.prog 138 #[.pointer (some ⟨g, 0, none⟩), .int .i64 16] W (DidB g m r3 e3 W))
    (q4 : ∀ W, RdR W g r3 e3 → Calls Tryz.prog 219 #[.pointer (some ⟨g, 0, none⟩)] W (RvP g v er r4 W)) (hlen4 : r4.length ≤ 1000000000000)
    (herr0 : er ≠ 0 → X = .error er) (hok0 : er = 0 → (∀ e, getL F c (n - 1) r4 = .error e → X = .error e) ∧ (∀ ks n' r, getL F c (n - 1) r4 = .ok (ks, n', r) → X = .ok (.mk op (strB m) v ks, n', r))) :
    Calls Tryz.prog 185 #[.pointer (some ⟨g, 0, none⟩), .pointer (some ⟨s, 0, none⟩), .int .i64 deep] w (RpP g s (d + 1) X w) := by
  have hz := hs.below (alloc1 w (.cells z8 58))
  have hgr := grow_set s (24 - n) deep _ hz.sz (by omega) (by omega)
  have hres : (decide (24 - n + 1 ≤ 24) && decide (deep ≤ 6)) = true := by
    simp; omega
  rw [hres] at hgr
  have hgl := hr.lt
  have hsl := hs.lt
  have hX := heap_alloc_new w (.cells z8 58)
  have hset := hz.set (24 - n + 1)
  have hon : Only s (w.alloc (.cells z8 58)) ((w.alloc (.cells z8 58)).setCell ⟨s, 0, none⟩ (.int .i64 (24 - n + 1))) := (Only.refl _ _).set _ _
  have hrd : RdR ((w.alloc (.cells z8 58)).setCell ⟨s, 0, none⟩ (.int .i64 (24 - n + 1))) g rest e0 := (hr.below (alloc1 w (.cells z8 58))).offT hon hgs hz (by decide)
  have hX2 := (hon.block w.heap.size (by simp) (by intro e; injection e with e; omega)).trans hX
  have ht : Twb g s w ((w.alloc (.cells z8 58)).setCell ⟨s, 0, none⟩ (.int .i64 (24 - n + 1))) := (Below.two (alloc1 w (.cells z8 58)) g s).trans (hon.two' g)
  have HGR := Lib.hid hgr
  generalize (w.alloc (.cells z8 58)).setCell ⟨s, 0, none⟩ (.int .i64 (24 - n + 1)) = w2 at *
  have hgb : g ≠ w.heap.size := by omega
  have hsb : s ≠ w.heap.size := by omega
  have herr := Lib.hid herr0
  have HOK := Lib.hid hok0
  have HBD := Lib.hid hbd
  have HFE := Lib.hid hfe
  clear herr0 hok0 hbd hfe hgr hX hres
  have Q1 := Lib.hid q1
  have Q2 := Lib.hid q2
  have Q3 := Lib.hid q3
  have Q4 := Lib.hid q4
  have IH := Lib.hid ih
  have HR2 := Lib.hid hrd
  have HS2 := Lib.hid (show SzB w2 s (24 - (n - 1)) from by rw [show 24 - (n - 1) = 24 - n + 1 by omega]; exact hset)
  have HT2 := Lib.hid ht
  have HX2 := Lib.hid hX2
  have HGL := Lib.hid hgl
  have HSL := Lib.hid hsl
  have H01 := Lib.hid (And.intro h0 h1)
  have H4 := Lib.hid hlen4
  have HD := Lib.hid (And.intro hd hdeep)
  have HC4 := Lib.hid hc4
  have hwd : IntKind.i64.wrap (deep + 1) = deep + 1 := by rw [IntKind.wrap_i64]; omega
  clear q1 q2 q3 q4 ih hrd hset ht hX2 hz hr hs hon h0 h1 hlen4 hd hdeep hc4
  have hsf := fun (w : World) (a : Addr) (m : Mode) (b : Nat) => run_store Tryz.prog w a (.float .f64 b) m rfl
  go_enter Tryz.func185, Tryz.ntmps185
  go_wp2_with fail
  refine HGR.out.mono ?_
  rintro _ w' ⟨rfl, rfl⟩
  clear HGR
  go_wp2_with fail
  refine (Q1.out _ HR2.out).mono ?_
  rintro _ w3 ⟨rfl, hr3, ho3⟩
  have hX3 := heap_alloc_new w3 (.cells #[.int .i64 op, .slice none 0 0, .string ⟨#[]⟩, .int .i64 0, .int .i64 0, .bool false, .string ⟨#[]⟩, .float .f64 0] 58)
  have hfr4 : Fr w g s w.heap.size w3.heap.size (w3.alloc (.cells #[.int .i64 op, .slice none 0 0, .string ⟨#[]⟩, .int .i64 0, .int .i64 0, .bool false, .string ⟨#[]⟩, .float .f64 0] 58)) #[.int .i64 op, .slice none 0 0, .string ⟨#[]⟩, .int .i64 0, .int .i64 0, .bool false, .string ⟨#[]⟩, .float .f64 0] := by
    have hz3 : w.heap.size < w3.heap.size := Nat.lt_of_lt_of_le (Array.getElem?_eq_some_iff.1 HX2.out).1 ho3.size
    refine ⟨?_, hX3, (HT2.out.trans (ho3.two s)).trans (Below.two (alloc1 _ _) g s)⟩
    exact ((alloc1 _ _).block w.heap.size hz3).trans ((ho3.block w.heap.size (Array.getElem?_eq_some_iff.1 HX2.out).1 (by intro e; injection e with e; exact hgb e.symm)).trans HX2.out)
  have hr4 := hr3.below (alloc1 w3 (.cells #[.int .i64 op, .slice none 0 0, .string ⟨#[]⟩, .int .i64 0, .int .i64 0, .bool false, .string ⟨#[]⟩, .float .f64 0] 58))
  have hs4 := (HS2.out.only ho3 (fun e => hgs e.symm)).below (alloc1 w3 (.cells #[.int .i64 op, .slice none 0 0, .string ⟨#[]⟩, .int .i64 0, .int .i64 0, .bool false, .string ⟨#[]⟩, .float .f64 0] 58))
  have h68 : w.heap.size < w3.heap.size := Nat.lt_of_lt_of_le (Array.getElem?_eq_some_iff.1 HX2.out).1 ho3.size
  go_upto_region 4 with fail
  generalize w3.alloc (.cells #[.int .i64 op, .slice none 0 0, .string ⟨#[]⟩, .int .i64 0, .int .i64 0, .bool false, .string ⟨#[]⟩, .float .f64 0] 58) = w4 at *
  generalize w3.heap.size = b8 at *
  have FR4 := Lib.hid hfr4
  have HR4 := Lib.hid hr4
  have HS4 := Lib.hid hs4
  have H68 := Lib.hid h68
  have hg8 : g ≠ b8 := by have := HGL.out; omega
  have hs8 : s ≠ b8 := by have := HSL.out; omega
  clear hfr4 hr4 hs4 hX3 hr3 ho3 h68 HR2 HS2 HT2 HX2
  go_wp2_with fail
  refine (Q2.out _ HR4.out).mono ?_
  rintro _ w5 ⟨rfl, hr5, ho5⟩
  have FR5 := Lib.hid (FR4.out.two (ho5.two s) hgb.symm hsb.symm hg8.symm hs8.symm)
  have HS5 := Lib.hid (HS4.out.only ho5 hgs.symm)
  have HR5 := Lib.hid hr5
  clear hr5 ho5 FR4 HS4 HR4
  go_wp2_with fail
  refine (Q3.out _ HR5.out).mono ?_
  rintro _ w6 ⟨u6, rfl, hu6, hr6, ho6⟩
  have hcv : (convert 34 9 u6).run Tryz.prog w6 = .ok (.string (strB m)) w6 := run_str hu6
  have FR6 := Lib.hid (FR5.out.two (ho6.two s) hgb.symm hsb.symm hg8.symm hs8.symm)
  have HS6 := Lib.hid (HS5.out.only ho6 hgs.symm)
  have HR6 := Lib.hid hr6
  have x2 := (heap_at FR6.out.x 2).trans (rfl : _ = some (Value.string ⟨#[]⟩))
  have xf := heap_free FR6.out.x
  have xl : b8 < w6.heap.size := (Array.getElem?_eq_some_iff.1 FR6.out.x).1
  clear hr6 ho6 FR5 HS5 HR5 hu6
  go_upto_region 6 with fail
  have hfr7 : Fr w g s w.heap.size b8 (w6.setCell ⟨b8, 2, none⟩ (.string (strB m))) #[.int .i64 op, .slice none 0 0, .string (strB m), .int .i64 0, .int .i64 0, .bool false, .string ⟨#[]⟩, .float .f64 0] := FR6.out.set (Nat.ne_of_lt H68.out) (Nat.le_of_lt H68.out) 2 _
  have ho7 : Only b8 w6 (w6.setCell ⟨b8, 2, none⟩ (.string (strB m))) := (Only.refl _ _).set _ _
  have HR7 := Lib.hid (HR6.out.offT ho7 hg8 FR6.out.x (by decide))
  have HS7 := Lib.hid (HS6.out.only ho7 hs8)
  have FR7 := Lib.hid hfr7
  generalize w6.setCell ⟨b8, 2, none⟩ (.string (strB m)) = w7 at *
  clear hfr7 ho7 x2 xf xl hcv FR6 HS6 HR6
  go_wp2_with fail
  refine (Q4.out _ HR7.out).mono ?_
  rintro _ w8 ⟨rfl, ⟨r8, e8, hr8, he8⟩, ho8⟩
  have FR8 := FR7.out.two (ho8.two s) hgb.symm hsb.symm hg8.symm hs8.symm
  have hvb := Bx.new w8 v
  have FR9 := Lib.hid (FR8.two (Below.two (alloc1 w8 (.cells #[.int .i64 v.k, .int .i64 v.i, .bool v.b, .string v.s, .float .f64 v.n] 53)) g s) hgb.symm hsb.symm hg8.symm hs8.symm)
  have HR9 := Lib.hid (hr8.below (alloc1 w8 (.cells #[.int .i64 v.k, .int .i64 v.i, .bool v.b, .string v.s, .float .f64 v.n] 53)))
  have HS9 := Lib.hid ((HS7.out.only ho8 hgs.symm).below (alloc1 w8 (.cells #[.int .i64 v.k, .int .i64 v.i, .bool v.b, .string v.s, .float .f64 v.n] 53)))
  have HE8 := Lib.hid he8
  have h810 : b8 < w8.heap.size := (Array.getElem?_eq_some_iff.1 FR8.x).1
  have BX9 := Lib.hid hvb
  have HB9 := Lib.hid h810
  clear FR7 HR7 HS7 hr8 he8 ho8 FR8 hvb h810
  go_upto_region 7 with fail
  generalize w8.alloc (.cells #[.int .i64 v.k, .int .i64 v.i, .bool v.b, .string v.s, .float .f64 v.n] 53) = w9 at *
  generalize w8.heap.size = b10 at *
  by_cases her : ¬ er = 0
  · have hX := herr.out her
    subst hX
    have herb : (er != 0) = true := by simpa using her
    clear her
    have v0 := (heap_at (FR9.out.z) 0).trans (rfl : _ = some (Value.int .i64 0))
    have v1 := (heap_at (FR9.out.z) 1).trans (rfl : _ = some (Value.slice none 0 0))
    have v2 := (heap_at (FR9.out.z) 2).trans (rfl : _ = some (Value.string ⟨#[]⟩))
    have v3 := (heap_at (FR9.out.z) 3).trans (rfl : _ = some (Value.int .i64 0))
    have v4 := (heap_at (FR9.out.z) 4).trans (rfl : _ = some (Value.int .i64 0))
    have v5 := (heap_at (FR9.out.z) 5).trans (rfl : _ = some (Value.bool false))
    have v6 := (heap_at (FR9.out.z) 6).trans (rfl : _ = some (Value.string ⟨#[]⟩))
    have v7 := (heap_at (FR9.out.z) 7).trans (rfl : _ = some (Value.float .f64 0))
    have vf := heap_free FR9.out.z
    have vl : w.heap.size < w9.heap.size := (Array.getElem?_eq_some_iff.1 FR9.out.z).1
    go_wp2
    exact bodyPost_ret (v := .tuple #[agZ, .int .i64 er]) (by simp [results, Tryz.results185, go_sem, v0, v1, v2, v3, v4, v5, v6, v7, vl]) rfl (RpE.mk HR9.out FR9.out.t FR9.out.z (Nat.le_refl _) hgb _ _ _ _ _ _ _ _)
  · replace her := Decidable.not_not.1 her
    subst her
    have herb : ((0 : Int) != 0) = false := rfl
    obtain ⟨rfl, rfl⟩ := HE8.out rfl
    obtain ⟨y0, y1, y2, y3, y4⟩ := BX9.out
    have x3 := (heap_at FR9.out.x 3).trans (rfl : _ = some (Value.int .i64 0))
    have x4 := (heap_at FR9.out.x 4).trans (rfl : _ = some (Value.int .i64 0))
    have x5 := (heap_at FR9.out.x 5).trans (rfl : _ = some (Value.bool false))
    have x6 := (heap_at FR9.out.x 6).trans (rfl : _ = some (Value.string ⟨#[]⟩))
    have x7 := (heap_at FR9.out.x 7).trans (rfl : _ = some (Value.float .f64 0))
    have xf := heap_free FR9.out.x
    have xl : b8 < w9.heap.size := (Array.getElem?_eq_some_iff.1 FR9.out.x).1
    go_upto_region 10 with fail
    have ne68 := Nat.ne_of_lt H68.out
    have le68 := Nat.le_of_lt H68.out
    have hfr10 : Fr w g s w.heap.size b8 (((((w9.setCell ⟨b8, 3, none⟩ (.int .i64 v.k)).setCell ⟨b8, 4, none⟩ (.int .i64 v.i)).setCell ⟨b8, 5, none⟩ (.bool v.b)).setCell ⟨b8, 6, none⟩ (.string v.s)).setCell ⟨b8, 7, none⟩ (.float .f64 v.n)) #[.int .i64 op, .slice none 0 0, .string (strB m), .int .i64 v.k, .int .i64 v.i, .bool v.b, .string v.s, .float .f64 v.n] := ((((FR9.out.set ne68 le68 3 _).set ne68 le68 4 _).set ne68 le68 5 _).set ne68 le68 6 _).set ne68 le68 7 _
    have ho10 : Only b8 w9 (((((w9.setCell ⟨b8, 3, none⟩ (.int .i64 v.k)).setCell ⟨b8, 4, none⟩ (.int .i64 v.i)).setCell ⟨b8, 5, none⟩ (.bool v.b)).setCell ⟨b8, 6, none⟩ (.string v.s)).setCell ⟨b8, 7, none⟩ (.float .f64 v.n)) := (((((Only.refl _ _).set _ _).set _ _).set _ _).set _ _).set _ _
    have HR10 := Lib.hid (HR9.out.offT ho10 hg8 FR9.out.x (by decide))
    have HS10 := Lib.hid (HS9.out.only ho10 hs8)
    have FR10 := Lib.hid hfr10
    generalize (((((w9.setCell ⟨b8, 3, none⟩ (.int .i64 v.k)).setCell ⟨b8, 4, none⟩ (.int .i64 v.i)).setCell ⟨b8, 5, none⟩ (.bool v.b)).setCell ⟨b8, 6, none⟩ (.string v.s)).setCell ⟨b8, 7, none⟩ (.float .f64 v.n)) = w10 at *
    clear hfr10 ho10 x3 x4 x5 x6 x7 xf xl y0 y1 y2 y3 y4 FR9 HR9 HS9 HE8 BX9 HB9 herr ne68 le68
    obtain ⟨i1, hi1, hz1, hsz1, hby1⟩ := infoZ exprinfo
    have HK := Lib.hid (HOK.out rfl)
    clear HOK herb
    generalize hL : getL F c (n - 1) r8 = L at *
    have HL := Lib.hid hL
    clear hL
    go_wp2
    go_loopw [40] (fun i wr => ∃ (k : Nat) (qs : List Kx) (nk : Int) (rk : List UInt8) (row : Value), k ≤ c ∧ i = .int .i64 k ∧ RpI F w g s w.heap.size b8 d c L op (strB m) v wr k qs nk rk row) (fun i _ => c - (intOf i).toNat)
    case atStart =>
      refine ⟨0, [], n - 1, r8, .slice none 0 0, Nat.zero_le _, rfl, ⟨?_, by have := H01.out; omega, by have := H01.out; omega, H4.out, HR10.out, HS10.out, FR10.out, World.ownsRow_nil _ _ _ _, fun q hq => by cases hq⟩⟩
      rw [List.map_nil, pre_nil, Nat.sub_zero]
      exact HL.out
    case round =>
      obtain ⟨k, qs, nk, rk, row, hk, rfl, hi⟩ := hrel
      have HI := Lib.hid hi
      clear hi FR10 HR10 HS10
      by_cases hlt : k < c
      · have hltI : (k : Int) < (c : Int) := by omega
        have hcall := IH.out nk rk wr HI.out.n0 HI.out.n1 HI.out.rd HI.out.sz HI.out.len
        rcases hx : F nk rk with er | ⟨kid, n1, r1⟩
        · rw [hx] at hcall
          have hne := HFE.out nk rk er hx
          have herb : (er != 0) = true := by simpa using hne
          have hL : L = .error er := by rw [← HI.out.pre, show c - k = c - (k + 1) + 1 by omega]; exact pre_no hx
          have hX := HK.out.1 er hL
          subst hX
          have HC := Lib.hid (show Calls _ _ _ _ (RpE g s er wr) from hcall)
          clear hcall hx hne hL hlt
          go_wp2_with fail
          refine HC.out.mono ?_
          rintro _ wA ⟨rfl, ⟨r', e', hrA⟩, htA⟩
          have FA := Lib.hid ((HI.out.fr.two htA hgb.symm hsb.symm hg8.symm hs8.symm).two (Below.two (alloc1 wA (.cells z8 58)) g s) hgb.symm hsb.symm hg8.symm hs8.symm)
          have HRA := Lib.hid (hrA.below (alloc1 wA (.cells z8 58)))
          clear hrA htA
          go_upto_region 13 with fail
          unfold z8 at FA HRA
          generalize wA.alloc (.cells #[.int .i64 0, .slice none 0 0, .string ⟨#[]⟩, .int .i64 0, .int .i64 0, .bool false, .string ⟨#[]⟩, .float .f64 0] 58) = wB at *
          have v0 := (heap_at (FA.out.z) 0).trans (rfl : _ = some (Value.int .i64 0))
          have v1 := (heap_at (FA.out.z) 1).trans (rfl : _ = some (Value.slice none 0 0))
          have v2 := (heap_at (FA.out.z) 2).trans (rfl : _ = some (Value.string ⟨#[]⟩))
          have v3 := (heap_at (FA.out.z) 3).trans (rfl : _ = some (Value.int .i64 0))
          have v4 := (heap_at (FA.out.z) 4).trans (rfl : _ = some (Value.int .i64 0))
          have v5 := (heap_at (FA.out.z) 5).trans (rfl : _ = some (Value.bool false))
          have v6 := (heap_at (FA.out.z) 6).trans (rfl : _ = some (Value.string ⟨#[]⟩))
          have v7 := (heap_at (FA.out.z) 7).trans (rfl : _ = some (Value.float .f64 0))
          have vf := heap_free FA.out.z
          have vl : w.heap.size < wB.heap.size := (Array.getElem?_eq_some_iff.1 FA.out.z).1
          go_wp2
          exact bodyPost_ret (v := .tuple #[agZ, .int .i64 er]) (by simp [results, Tryz.results185, go_sem, v0, v1, v2, v3, v4, v5, v6, v7, vl]) rfl (RpE.mk HRA.out FA.out.t FA.out.z (Nat.le_refl _) hgb _ _ _ _ _ _ _ _)
        · rw [hx] at hcall
          have HC := Lib.hid (show Calls _ _ _ _ (RpO g s d (kid, n1, r1) wr) from hcall)
          have HX := Lib.hid hx
          have HLT := Lib.hid hlt
          have HLI := Lib.hid hltI
          clear hcall hx
          go_wp2_with fail
          refine HC.out.mono ?_
          rintro _ wA ⟨A', c', rfl, hex, hrdA, hszA, htA⟩
          have FA := Lib.hid (HI.out.fr.two htA hgb.symm hsb.symm hg8.symm hs8.symm)
          have HEX := Lib.hid hex
          have HRA := Lib.hid hrdA
          have HSA := Lib.hid hszA
          have HTA := Lib.hid htA
          have hown2 := own_twb HI.out.own htA (by have := HGL.out; have := H68.out; omega) (by have := HSL.out; have := H68.out; omega)
          have HOW := Lib.hid ((hown2.alloc (.cells (Kx.mk kid A' c').cells.toArray 58)).alloc (.cells (Kx.mk kid A' c').cells.toArray 58))
          have hrw := rows_one (wA.alloc (.cells (Kx.mk kid A' c').cells.toArray 58)) (Kx.mk kid A' c').cells 58 8 rfl
          rw [World.size_alloc] at hrw
          have HRW := Lib.hid hrw
          clear hrw
          have x1 := (heap_at FA.out.x 1).trans (rfl : _ = some row)
          have xf := heap_free FA.out.x
          have xl : b8 < wA.heap.size := (Array.getElem?_eq_some_iff.1 FA.out.x).1
          have h00 : ((0 : Int) != 0) = false := rfl
          clear hex hrdA hszA htA hown2 hlt
          go_upto_region 15 with fail
          have hb1 : k + 1 ≤ maxLen := by have := HC4.out; have := HLT.out; unfold maxLen; omega
          have hb2 : (k + 1) * 96 ≤ 140737488355328 := by have := HC4.out; have := HLT.out; omega
          have hb3 : b8 + 1 ≤ ((wA.alloc (.cells (Kx.mk kid A' c').cells.toArray 58)).alloc (.cells (Kx.mk kid A' c').cells.toArray 58)).heap.size := by simp only [World.size_alloc]; omega
          have hb4 : ∀ u ∈ (Kx.mk kid A' c').cells, u.oneCell' = true := fun u hu => kx_one [Kx.mk kid A' c'] u (by rw [List.flatMap_cons, List.flatMap_nil, List.append_nil]; exact hu)
          have HBS := Lib.hid (And.intro hb1 (And.intro hb2 (And.intro hb3 hb4)))
          clear hb1 hb2 hb3 hb4
          have hkb : k + 1 ≤ 4294967295 := by have := HC4.out; have := HLT.out; omega
          go_wp2_with (at_builtin; refine wpList_append_rows rfl (.tmp 55) (.tmp 57) 56 rfl (b8 + 1) 58 i1 agZ 8 96 Tryz.underlying56 hi1 hz1 hsz1 hby1 rfl (by decide) row k _ rfl HOW.out _ 1 _ rfl HRW.out HBS.out.2.2.2 HBS.out.1 HBS.out.2.1 HBS.out.2.2.1 ?_; intro v4 w4 hown4 hgr4 hor4; obtain ⟨A4, c4, rfl⟩ := own_sliceX hown4; have HN := Lib.hid (RpI.next HI.out HLT.out HX.out (HBD.out _ _ _ _ _ HI.out.n0 HX.out) HGL.out HSL.out (Nat.le_refl _) H68.out HEX.out HRA.out HSA.out HTA.out hown4 hgr4 hor4); have hbb := hgr4.block b8 (Nat.lt_of_lt_of_le (Nat.lt_succ_self b8) HBS.out.2.2.1) (fun e => by have := (HOW.out.lt b8 e.symm).1; omega); have hbx := hbb.trans (((alloc1 _ _).block b8 (by simp only [World.size_alloc]; omega)).trans (((alloc1 _ _).block b8 xl).trans FA.out.x)); have x1b := (heap_at hbx 1).trans (rfl : _ = some row); have xfb := heap_free hbx 1; clear hown4 hgr4 hor4 hbb hbx x1 xf xl)
          go_roundw
          case rel => exact ⟨k + 1, _, n1, r1, _, by have := HLT.out; omega, by go_num, HN.out⟩
          case measure => simp [intOf]; have := HLT.out; omega
      · obtain rfl : k = c := by omega
        have hpre := HI.out.pre
        rw [Nat.sub_self, pre_end] at hpre
        have hX := HK.out.2 _ _ _ hpre.symm
        subst hX
        obtain ⟨A2, c2, rfl, hex⟩ := exs_own (T := fun b => w.heap.size < b) HI.out.own HI.out.kids (fun b hb => by have := H68.out; omega) (fun b hb => by have := H68.out; omega) op (strB m) v
        have HEX := Lib.hid hex
        have FA := Lib.hid HI.out.fr
        have HRS := Lib.hid (And.intro HI.out.rd HI.out.sz)
        clear hex hpre HI HL
        have v0 := (heap_at (FA.out.z) 0).trans (rfl : _ = some (Value.int .i64 0))
        have v1 := (heap_at (FA.out.z) 1).trans (rfl : _ = some (Value.slice none 0 0))
        have v2 := (heap_at (FA.out.z) 2).trans (rfl : _ = some (Value.string ⟨#[]⟩))
        have v3 := (heap_at (FA.out.z) 3).trans (rfl : _ = some (Value.int .i64 0))
        have v4 := (heap_at (FA.out.z) 4).trans (rfl : _ = some (Value.int .i64 0))
        have v5 := (heap_at (FA.out.z) 5).trans (rfl : _ = some (Value.bool false))
        have v6 := (heap_at (FA.out.z) 6).trans (rfl : _ = some (Value.string ⟨#[]⟩))
        have v7 := (heap_at (FA.out.z) 7).trans (rfl : _ = some (Value.float .f64 0))
        have x0 := (heap_at (FA.out.x) 0).trans (rfl : _ = some (Value.int .i64 op))
        have x1 := (heap_at (FA.out.x) 1).trans (rfl : _ = some (Value.slice A2 (qs.map Kx.e).length c2))
        have x2 := (heap_at (FA.out.x) 2).trans (rfl : _ = some (Value.string (strB m)))
        have x3 := (heap_at (FA.out.x) 3).trans (rfl : _ = some (Value.int .i64 v.k))
        have x4 := (heap_at (FA.out.x) 4).trans (rfl : _ = some (Value.int .i64 v.i))
        have x5 := (heap_at (FA.out.x) 5).trans (rfl : _ = some (Value.bool v.b))
        have x6 := (heap_at (FA.out.x) 6).trans (rfl : _ = some (Value.string v.s))
        have x7 := (heap_at (FA.out.x) 7).trans (rfl : _ = some (Value.float .f64 v.n))
        have vf := heap_free FA.out.z
        have vl : w.heap.size < wr.heap.size := (Array.getElem?_eq_some_iff.1 FA.out.z).1
        have xl : b8 < wr.heap.size := (Array.getElem?_eq_some_iff.1 FA.out.x).1
        generalize hks : qs.map Kx.e = ks at *
        clear hks
        go_wp2
        exact bodyPost_ret (v := .tuple #[agX op A2 ks.length c2 (strB m) v, .int .i64 0]) (by simp [results, Tryz.results185, go_sem, v0, v1, v2, v3, v4, v5, v6, v7, vl]) rfl (RpO.mk (x := .mk op (strB m) v ks) HEX.out HRS.out.1 HRS.out.2 FA.out.t FA.out.z (Nat.le_refl _) hgb hsb _ _ _ _ _ _ _ _)
set_option maxHeartbeats 8000000 in
theorem readParts_some (g s : Nat) (d : Nat) (n deep : Int) (rest : List UInt8) (w : World) (hgs : g ≠ s) (hd : d + 1 ≤ 6) (hdeep : deep = 7 - ((d + 1 : Nat) : Int)) (h0 : 1 ≤ n) (h1 : n ≤ 24) (hr : RdR w g rest 0) (hs : SzB w s (24 - n)) (hlen : rest.length ≤ 1000000000000)
    (ih : ∀ n rest w, 0 ≤ n → n ≤ 24 → RdR w g rest 0 → SzB w s (24 - n) → rest.length ≤ 1000000000000 → Calls Tryz.prog 185 #[.pointer (some ⟨g, 0, none⟩), .pointer (some ⟨s, 0, none⟩), .int .i64 (deep + 1)] w (RpP g s d (getX d n rest) w)) :
    Calls Tryz.prog 185 #[.pointer (some ⟨g, 0, none⟩), .pointer (some ⟨s, 0, none⟩), .int .i64 deep] w (RpP g s (d + 1) (getX (d + 1) n rest) w) := by
  have q1 : ∀ W, RdR W g rest 0 → Calls Tryz.prog 140 #[.pointer (some ⟨g, 0, none⟩)] W (Did g (.int .i64 (wrap64 ((stepF 8 alInt rest 0).1 : Int))) (stepF 8 alInt rest 0).2.1 (stepF 8 alInt rest 0).2.2 W) := fun W h => Int_any g rest 0 W h
  have l1 := stepF_len 8 alInt rest 0
  rcases hs1 : stepF 8 alInt rest 0 with ⟨o, r1, e1⟩
  rw [hs1] at q1 l1
  have q2 : ∀ W, RdR W g r1 e1 → Calls Tryz.prog 139 #[.pointer (some ⟨g, 0, none⟩), .int .i64 3] W (Did g (.int .i64 (wrap64 ((stepF 4 (alCount 3) r1 e1).1 : Int))) (stepF 4 (alCount 3) r1 e1).2.1 (stepF 4 (alCount 3) r1 e1).2.2 W) := fun W h => Count_any g r1 e1 3 (by decide) (by decide) W h
  have l2 := stepF_len 4 (alCount 3) r1 e1
  have hc4 := step4_le (alCount 3) r1 e1
  rcases hs2 : stepF 4 (alCount 3) r1 e1 with ⟨c, r2, e2⟩
  rw [hs2] at q2 l2 hc4
  dsimp only at q1 q2 l1 l2 hc4
  have hcw : wrap64 (c : Int) = c := by unfold wrap64; omega
  rw [hcw] at q2
  have q3 : ∀ W, RdR W g r2 e2 → Calls Tryz.prog 138 #[.pointer (some ⟨g, 0, none⟩), .int .i64 16] W (DidB g (bytesF 16 r2 e2).1 (bytesF 16 r2 e2).2.1 (bytesF 16 r2 e2).2.2 W) := fun W h => Bytes_any g r2 e2 16 (by decide) (by decide) W h (by omega)
  have l3 := bytesF_len 16 r2 e2
  rcases hs3 : bytesF 16 r2 e2 with ⟨m, r3, e3⟩
  rw [hs3] at q3 l3
  dsimp only at q3 l3
  have q4 : ∀ W, RdR W g r3 e3 → Calls Tryz.prog 219 #[.pointer (some ⟨g, 0, none⟩)] W (RvP g (rvF r3 e3).1 (rvF r3 e3).2.2 (rvF r3 e3).2.1 W) := fun W h => readVal_any g r3 e3 W h (by omega)
  have l4 := rvF_len r3 e3
  rcases hs4 : rvF r3 e3 with ⟨v, r4, er⟩
  rw [hs4] at q4 l4
  dsimp only at q4 l4
  exact readParts_walk g s d n deep 0 rest w hgs hd hdeep h0 h1 hr hs (getX d) (getX_bd d) (getX_er d) (getX (d + 1) n rest) (wrap64 (o : Int)) c m v er e1 e2 e3 r1 r2 r3 r4 ih q1 q2 hc4 q3 q4 (by omega) (fun h => getX_head_err (d := d) (by omega) hs1 hs2 hs3 hs4 h) (fun h => getX_head_ok (d := d) (by omega) hs1 hs2 hs3 (hs4.trans (by rw [h])))
/-- readParts -/
theorem eReadParts_any (g s : Nat) (hgs : g ≠ s) : ∀ (d : Nat) (n deep : Int) (rest : List UInt8) (w : World), d ≤ 6 → deep = 7 - d → 0 ≤ n → n ≤ 24 → RdR w g rest 0 → SzB w s (24 - n) → rest.length ≤ 1000000000000 →
    Calls Tryz.prog 185 #[.pointer (some ⟨g, 0, none⟩), .pointer (some ⟨s, 0, none⟩), .int .i64 deep] w (RpP g s d (getX d n rest) w)
  | 0, n, deep, rest, w, hd, hdeep, h0, h1, hr, hs, hlen => by
    rw [getX_none (.inl rfl)]
    exact readParts_none g s 0 n deep rest w hgs hd hdeep h0 h1 hr hs (.inl rfl)
  | d + 1, n, deep, rest, w, hd, hdeep, h0, h1, hr, hs, hlen => by
    by_cases hn : n < 1
    · rw [getX_none (.inr hn)]
      exact readParts_none g s (d + 1) n deep rest w hgs hd hdeep h0 h1 hr hs (.inr hn)
    · exact readParts_some g s d n deep rest w hgs hd hdeep (by omega) h1 hr hs hlen fun n rest w a b c e f => eReadParts_any g s hgs d n (deep + 1) rest w (by omega) (by omega) a b c e f
/-- behind an error nothing is read -/
theorem readParts_late (g s : Nat) (hgs : g ≠ s) (e0 : Int) (he : e0 ≠ 0) (rest : List UInt8) (w : World) (hr : RdR w g rest e0) (hs : SzB w s (24 - 24)) (hlen : rest.length ≤ 1000000000000) :
    Calls Tryz.prog 185 #[.pointer (some ⟨g, 0, none⟩), .pointer (some ⟨s, 0, none⟩), .int .i64 1] w (RpE g s e0 w) := by
  have s1 : stepF 8 alInt rest e0 = (0, rest, e0) := by unfold stepF; rw [if_pos he]
  have s2 : stepF 4 (alCount 3) rest e0 = (0, rest, e0) := by unfold stepF; rw [if_pos he]
  have s3 : bytesF 16 rest e0 = ([], rest, e0) := by
    have h : stepF 4 (alBytes 16 rest) rest e0 = (0, rest, e0) := by unfold stepF; rw [if_pos he]
    unfold bytesF
    rw [h, if_pos rfl]
  have s4 := rvF_err rest e0 he
  have hw0 : wrap64 ((0 : Nat) : Int) = 0 := by unfold wrap64; omega
  have q1 : ∀ W, RdR W g rest e0 → Calls Tryz.prog 140 #[.pointer (some ⟨g, 0, none⟩)] W (Did g (.int .i64 0) rest e0 W) := fun W h => by
    have h := Int_any g rest e0 W h
    rw [s1] at h
    dsimp only at h
    rw [hw0] at h
    exact h
  have q2 : ∀ W, RdR W g rest e0 → Calls Tryz.prog 139 #[.pointer (some ⟨g, 0, none⟩), .int .i64 3] W (Did g (.int .i64 ((0 : Nat) : Int)) rest e0 W) := fun W h => by
    have h := Count_any g rest e0 3 (by decide) (by decide) W h
    rw [s2] at h
    dsimp only at h
    rw [hw0] at h
    exact h
  have q3 : ∀ W, RdR W g rest e0 → Calls Tryz.prog 138 #[.pointer (some ⟨g, 0, none⟩), .int .i64 16] W (DidB g [] rest e0 W) := fun W h => by
    have h := Bytes_any g rest e0 16 (by decide) (by decide) W h (by omega)
    rw [s3] at h
    exact h
  have q4 : ∀ W, RdR W g rest e0 → Calls Tryz.prog 219 #[.pointer (some ⟨g, 0, none⟩)] W (RvP g vZero e0 rest W) := fun W h => by
    have h := readVal_any g rest e0 W h hlen
    rw [s4] at h
    exact h
  exact readParts_walk g s 5 24 1 e0 rest w hgs (by omega) (by decide) (by decide) (by decide) hr hs (getX 5) (getX_bd 5) (getX_er 5) (.error e0) 0 0 [] vZero e0 e0 e0 e0 rest rest rest rest
    (fun n rest w a b c e f => eReadParts_any g s hgs 5 n 2 rest w (by omega) (by decide) a b c e f) q1 q2 (by omega) q3 q4 hlen (fun _ => rfl) (fun h => absurd h he)
end Go.Proofs.YthgdnpcfdgimlabGreat

/- Layer 5: Get, by the program. -/
namespace Go.Proofs.YthgdnpcfdgimlabGreat
open Go.RowKit
set_option linter.unusedVariables false
set_option linter.unusedSimpArgs false
set_option maxRecDepth 20000

/-- what Get leaves: an error, or the expression in new memory -/
def GxE (g : Nat) (er : Int) (w : World) (e : Ending) (w' : World) : Prop := e = .returned (.tuple #[agZ, .int .i64 er]) ∧ (∃ r' e', RdR w' g r' e') ∧ Only g w w'
def GxO (g : Nat) (x : Ex × Int × List UInt8) (w : World) (e : Ending) (w' : World) : Prop :=
  ∃ A c, e = .returned (.tuple #[agX x.1.op A x.1.kids.length c x.1.name x.1.val, .int .i64 0]) ∧ ExS (fun b => w.heap.size ≤ b) w' 6 A c x.1 ∧ RdR w' g x.2.2 0 ∧ Only g w w'
def GxP (g : Nat) (x : Except Int (Ex × Int × List UInt8)) (w : World) (e : Ending) (w' : World) : Prop := match x with
  | .error er => GxE g er w e w'
  | .ok y => GxO g y w e w'
theorem Only.new {g k : Nat} {a w w' : World} (h : Only g a w) (ho : Only k w w') (hk : a.heap.size ≤ k) : Only g a w' :=
  ⟨ho.os.trans h.os, ho.tape.trans h.tape, ho.output.trans h.output, Nat.le_trans h.size ho.size, fun m hm h1 => (ho.block m (Nat.lt_of_lt_of_le hm h.size) (by intro e; injection e with e; omega)).trans (h.block m hm h1)⟩
theorem GxE.mk {g b6 : Nat} {er e' : Int} {r' : List UInt8} {w W : World} {cs : Array Value} (hr : RdR W g r' e') (ho : Only g w W) (hz : W.heap[b6]? = some (.cells cs 58 (0, 0))) (hb : w.heap.size ≤ b6) (hg : g ≠ b6) (u0 u1 u2 u3 u4 u5 u6 u7 : Value) :
    GxE g er w (.returned (.tuple #[agZ, .int .i64 er])) (set8 W b6 u0 u1 u2 u3 u4 u5 u6 u7) :=
  ⟨rfl, ⟨_, _, hr.offT (set8_only _ _ _ _ _ _ _ _ _ _) hg hz (by decide)⟩, ho.new (set8_only _ _ _ _ _ _ _ _ _ _) hb⟩
theorem GxO.mk {g b6 c : Nat} {n : Int} {r : List UInt8} {x : Ex} {A : Option Addr} {w W : World} {cs : Array Value} (hx : ExS (fun b => b6 < b) W 6 A c x) (hr : RdR W g r 0) (ho : Only g w W) (hz : W.heap[b6]? = some (.cells cs 58 (0, 0))) (hb : w.heap.size ≤ b6) (hg : g ≠ b6) (u0 u1 u2 u3 u4 u5 u6 u7 : Value) :
    GxO g (x, n, r) w (.returned (.tuple #[agX x.op A x.kids.length c x.name x.val, .int .i64 0])) (set8 W b6 u0 u1 u2 u3 u4 u5 u6 u7) := by
  have h8 := set8_only W b6 u0 u1 u2 u3 u4 u5 u6 u7
  exact ⟨A, c, rfl, hx.move (fun b hb2 hl => ⟨h8.block b hl (by intro e; injection e with e; omega), by omega⟩) h8.size, hr.offT h8 hg hz (by decide), ho.new h8 hb⟩
/-- 5.3, behind an error, too -/
def getXE (rest : List UInt8) (e : Int) : Except Int (Ex × Int × List UInt8) := if e = 0 then getX 6 24 rest else .error e

set_option maxHeartbeats 4000000 in
theorem eGet_walk (g : Nat) (rest : List UInt8) (e0 : Int) (X : Except Int (Ex × Int × List UInt8)) (hX : ∀ er, X = .error er → er ≠ 0) (w : World) (hr : RdR w g rest e0)
    (hq : ∀ s W, g ≠ s → RdR W g rest e0 → SzB W s (24 - 24) → Calls Tryz.prog 185 #[.pointer (some ⟨g, 0, none⟩), .pointer (some ⟨s, 0, none⟩), .int .i64 1] W (RpP g s 6 X W)) :
    Calls Tryz.prog 146 #[.pointer (some ⟨g, 0, none⟩)] w (GxP g X w) := by
  obtain ⟨A, c, hbt, -, -, -, hc0, hc1, hf, hgl⟩ := hr.open
  have hsf := fun (w : World) (a : Addr) (m : Mode) (b : Nat) => run_store Tryz.prog w a (.float .f64 b) m rfl
  have h1 := alloc1 w (.cells z8 58)
  have h2 := alloc1 (w.alloc (.cells z8 58)) (.cells #[.slice A rest.length c, .int .i64 e0] 94)
  have h3 := alloc1 ((w.alloc (.cells z8 58)).alloc (.cells #[.slice A rest.length c, .int .i64 e0] 94)) (.cells #[.int .i64 0] 170)
  have hz1 := heap_alloc_new w (.cells z8 58)
  have hz3 : SzB (((w.alloc (.cells z8 58)).alloc (.cells #[.slice A rest.length c, .int .i64 e0] 94)).alloc (.cells #[.int .i64 0] 170)) (w.heap.size + 2) (24 - 24) := by
    have h := heap_alloc_new ((w.alloc (.cells z8 58)).alloc (.cells #[.slice A rest.length c, .int .i64 e0] 94)) (.cells #[.int .i64 0] 170)
    rw [World.size_alloc, World.size_alloc] at h
    exact h
  have hcp := RdR.copy (W := w.alloc (.cells z8 58)) (e := e0) (Bt.below hbt h1 (Nat.le_refl _)) (w.heap.size + 1) (by simp)
  have hcall := hq (w.heap.size + 2) _ (by omega) (((hr.below h1).below h2).below h3) hz3
  have HZ1 := Lib.hid ((h3.block w.heap.size (by simp; omega)).trans ((h2.block w.heap.size (by simp)).trans hz1))
  have HCP := Lib.hid (hcp.below h3)
  obtain ⟨csg, hgc, -⟩ := (((hr.below h1).below h2).below h3).cells
  have HGC := Lib.hid hgc
  have HSC := Lib.hid hz3
  have HC := Lib.hid hcall
  have HG := Lib.hid hgl
  have HB := Lib.hid (h1.trans ((h2.mono (by simp)).trans (h3.mono (by simp; omega))))
  have hHX := Lib.hid hX
  have hgb : g ≠ w.heap.size := by omega
  have hgp : g ≠ w.heap.size + 1 := by omega
  clear hgc hcall hq hr hbt h1 h2 h3 hz1 hz3 hcp hX
  have hnil : ∀ W : World, True := fun _ => trivial
  go_enter Tryz.func146, Tryz.ntmps146
  rcases X with er | y
  · have hne := hHX.out er rfl
    have herb : (er != 0) = true := by simpa using hne
    have HCE := Lib.hid (show Calls _ _ _ _ (RpE g (w.heap.size + 2) er _) from HC.out)
    clear HC hHX hne
    go_wp2_with fail
    unfold z8 at HCE
    refine HCE.out.mono ?_
    rintro _ wA ⟨rfl, ⟨r', e', hrA⟩, htA⟩
    have hz := (htA.block w.heap.size (by simp; omega) hgb.symm (by omega)).trans HZ1.out
    have hcpA : RdR wA (w.heap.size + 1) rest e0 := HCP.out.keep htA.size (htA.block _ HCP.out.lt hgp.symm (by omega)) fun k cs fr hk => htA.block k (Array.getElem?_eq_some_iff.1 hk).1 (other_block hk HGC.out (by decide)) (other_block hk HSC.out (by decide))
    have hz2 := ((alloc1 wA (.cells #[.int .i64 0, .slice none 0 0, .string ⟨#[]⟩, .int .i64 0, .int .i64 0, .bool false, .string ⟨#[]⟩, .float .f64 0] 58)).block w.heap.size (Array.getElem?_eq_some_iff.1 hz).1).trans hz
    have hon : Only g w wA := ⟨htA.os.trans HB.out.os, htA.tape.trans HB.out.tape, htA.output.trans HB.out.output, Nat.le_trans HB.out.size htA.size, fun m hm h1 => (htA.block m (by simp; omega) (fun e => h1 (by rw [e])) (by omega)).trans (HB.out.block m hm)⟩
    have hg5 : g ≠ wA.heap.size := Nat.ne_of_lt hrA.lt
    have HZ := Lib.hid hz2
    have HRA := Lib.hid (hrA.below (alloc1 wA (.cells #[.int .i64 0, .slice none 0 0, .string ⟨#[]⟩, .int .i64 0, .int .i64 0, .bool false, .string ⟨#[]⟩, .float .f64 0] 58)))
    have HCA := Lib.hid (hcpA.below (alloc1 wA (.cells #[.int .i64 0, .slice none 0 0, .string ⟨#[]⟩, .int .i64 0, .int .i64 0, .bool false, .string ⟨#[]⟩, .float .f64 0] 58)))
    have HON := Lib.hid (hon.below (alloc1 wA (.cells #[.int .i64 0, .slice none 0 0, .string ⟨#[]⟩, .int .i64 0, .int .i64 0, .bool false, .string ⟨#[]⟩, .float .f64 0] 58)))
    have HNB := Lib.hid (heap_alloc_new wA (.cells #[.int .i64 0, .slice none 0 0, .string ⟨#[]⟩, .int .i64 0, .int .i64 0, .bool false, .string ⟨#[]⟩, .float .f64 0] 58))
    clear hrA htA hz hcpA hz2 hon HCE hc0 hc1 hf hgl
    go_upto_region 5 with fail
    generalize wA.alloc (.cells #[.int .i64 0, .slice none 0 0, .string ⟨#[]⟩, .int .i64 0, .int .i64 0, .bool false, .string ⟨#[]⟩, .float .f64 0] 58) = wB at *
    generalize wA.heap.size = b5 at *
    by_cases he' : e' = 0
    · subst he'
      go_wp2_with fail
      refine (Err_any g r' 0 wB HRA.out).mono ?_
      rintro _ w' ⟨rfl, rfl⟩
      obtain ⟨A2, c2, hbt2, -, -, -, d0, d1, -, -⟩ := HCA.out.open
      obtain ⟨A3, c3, -, -, -, -, g0, g1, gf, gl⟩ := HRA.out.open
      have HBK := Lib.hid (HRA.out.back hbt2 (e1 := e0))
      have ho2 : Only g wB ((wB.setCell ⟨g, 0, none⟩ (.slice A2 rest.length c2)).setCell ⟨g, 1, none⟩ (.int .i64 e0)) := ((Only.refl g wB).set _ _).set _ _
      have HO2 := Lib.hid (HON.out.trans ho2)
      have HZB := Lib.hid ((ho2.block w.heap.size (Array.getElem?_eq_some_iff.1 HZ.out).1 (by intro e; injection e with e; exact hgb e.symm)).trans HZ.out)
      have HNB2 := Lib.hid ((ho2.block b5 (Array.getElem?_eq_some_iff.1 HNB.out).1 (by intro e; injection e with e; exact hg5 e.symm)).trans HNB.out)
      clear hbt2 ho2
      go_upto_region 7 with fail
      generalize (wB.setCell ⟨g, 0, none⟩ (.slice A2 rest.length c2)).setCell ⟨g, 1, none⟩ (.int .i64 e0) = wC at *
      clear d0 d1 g0 g1 gf gl
      have v0 := (heap_at (HZB.out) 0).trans (rfl : _ = some (Value.int .i64 0))
      have v1 := (heap_at (HZB.out) 1).trans (rfl : _ = some (Value.slice none 0 0))
      have v2 := (heap_at (HZB.out) 2).trans (rfl : _ = some (Value.string ⟨#[]⟩))
      have v3 := (heap_at (HZB.out) 3).trans (rfl : _ = some (Value.int .i64 0))
      have v4 := (heap_at (HZB.out) 4).trans (rfl : _ = some (Value.int .i64 0))
      have v5 := (heap_at (HZB.out) 5).trans (rfl : _ = some (Value.bool false))
      have v6 := (heap_at (HZB.out) 6).trans (rfl : _ = some (Value.string ⟨#[]⟩))
      have v7 := (heap_at (HZB.out) 7).trans (rfl : _ = some (Value.float .f64 0))
      have x0 := (heap_at (HNB2.out) 0).trans (rfl : _ = some (Value.int .i64 0))
      have x1 := (heap_at (HNB2.out) 1).trans (rfl : _ = some (Value.slice none 0 0))
      have x2 := (heap_at (HNB2.out) 2).trans (rfl : _ = some (Value.string ⟨#[]⟩))
      have x3 := (heap_at (HNB2.out) 3).trans (rfl : _ = some (Value.int .i64 0))
      have x4 := (heap_at (HNB2.out) 4).trans (rfl : _ = some (Value.int .i64 0))
      have x5 := (heap_at (HNB2.out) 5).trans (rfl : _ = some (Value.bool false))
      have x6 := (heap_at (HNB2.out) 6).trans (rfl : _ = some (Value.string ⟨#[]⟩))
      have x7 := (heap_at (HNB2.out) 7).trans (rfl : _ = some (Value.float .f64 0))
      have vf := heap_free (HZB.out)
      have vl : w.heap.size < wC.heap.size := (Array.getElem?_eq_some_iff.1 (HZB.out)).1
      go_wp2
      exact bodyPost_ret (v := .tuple #[agZ, .int .i64 er]) (by simp [results, Tryz.results146, go_sem, v0, v1, v2, v3, v4, v5, v6, v7, vl]) rfl (GxE.mk HBK.out HO2.out HZB.out (Nat.le_refl _) hgb _ _ _ _ _ _ _ _)
    · have heb : (e' == 0) = false := by simpa using he'
      go_wp2_with fail
      refine (Err_any g r' e' wB HRA.out).mono ?_
      rintro _ w' ⟨rfl, rfl⟩
      clear he'
      have v0 := (heap_at (HZ.out) 0).trans (rfl : _ = some (Value.int .i64 0))
      have v1 := (heap_at (HZ.out) 1).trans (rfl : _ = some (Value.slice none 0 0))
      have v2 := (heap_at (HZ.out) 2).trans (rfl : _ = some (Value.string ⟨#[]⟩))
      have v3 := (heap_at (HZ.out) 3).trans (rfl : _ = some (Value.int .i64 0))
      have v4 := (heap_at (HZ.out) 4).trans (rfl : _ = some (Value.int .i64 0))
      have v5 := (heap_at (HZ.out) 5).trans (rfl : _ = some (Value.bool false))
      have v6 := (heap_at (HZ.out) 6).trans (rfl : _ = some (Value.string ⟨#[]⟩))
      have v7 := (heap_at (HZ.out) 7).trans (rfl : _ = some (Value.float .f64 0))
      have x0 := (heap_at (HNB.out) 0).trans (rfl : _ = some (Value.int .i64 0))
      have x1 := (heap_at (HNB.out) 1).trans (rfl : _ = some (Value.slice none 0 0))
      have x2 := (heap_at (HNB.out) 2).trans (rfl : _ = some (Value.string ⟨#[]⟩))
      have x3 := (heap_at (HNB.out) 3).trans (rfl : _ = some (Value.int .i64 0))
      have x4 := (heap_at (HNB.out) 4).trans (rfl : _ = some (Value.int .i64 0))
      have x5 := (heap_at (HNB.out) 5).trans (rfl : _ = some (Value.bool false))
      have x6 := (heap_at (HNB.out) 6).trans (rfl : _ = some (Value.string ⟨#[]⟩))
      have x7 := (heap_at (HNB.out) 7).trans (rfl : _ = some (Value.float .f64 0))
      have vf := heap_free (HZ.out)
      have vl : w.heap.size < wB.heap.size := (Array.getElem?_eq_some_iff.1 (HZ.out)).1
      go_wp2
      exact bodyPost_ret (v := .tuple #[agZ, .int .i64 er]) (by simp [results, Tryz.results146, go_sem, v0, v1, v2, v3, v4, v5, v6, v7, vl]) rfl (GxE.mk HRA.out HON.out HZ.out (Nat.le_refl _) hgb _ _ _ _ _ _ _ _)
  · obtain ⟨x, n', r'⟩ := y
    have h00 : ((0 : Int) != 0) = false := rfl
    have HCE := Lib.hid (show Calls _ _ _ _ (RpO g (w.heap.size + 2) 6 (x, n', r') _) from HC.out)
    clear HC hHX
    go_wp2_with fail
    unfold z8 at HCE
    refine HCE.out.mono ?_
    rintro _ wA ⟨A', c', rfl, hex, hrA, -, htA⟩
    have hz := (htA.block w.heap.size (by simp; omega) hgb.symm (by omega)).trans HZ1.out
    have hz2 := ((alloc1 wA (.cells #[.int .i64 x.op, .slice A' x.kids.length c', .string x.name, .int .i64 x.val.k, .int .i64 x.val.i, .bool x.val.b, .string x.val.s, .float .f64 x.val.n] 58)).block w.heap.size (Array.getElem?_eq_some_iff.1 hz).1).trans hz
    have hon : Only g w wA := ⟨htA.os.trans HB.out.os, htA.tape.trans HB.out.tape, htA.output.trans HB.out.output, Nat.le_trans HB.out.size htA.size, fun m hm h1 => (htA.block m (by simp; omega) (fun e => h1 (by rw [e])) (by omega)).trans (HB.out.block m hm)⟩
    have hex2 : ExS (fun b => w.heap.size < b) (wA.alloc (.cells #[.int .i64 x.op, .slice A' x.kids.length c', .string x.name, .int .i64 x.val.k, .int .i64 x.val.i, .bool x.val.b, .string x.val.s, .float .f64 x.val.n] 58)) 6 A' c' x := hex.move (fun b hb hl => ⟨(alloc1 wA (.cells #[.int .i64 x.op, .slice A' x.kids.length c', .string x.name, .int .i64 x.val.k, .int .i64 x.val.i, .bool x.val.b, .string x.val.s, .float .f64 x.val.n] 58)).block b hl, by simp at hb; omega⟩) (alloc1 wA (.cells #[.int .i64 x.op, .slice A' x.kids.length c', .string x.name, .int .i64 x.val.k, .int .i64 x.val.i, .bool x.val.b, .string x.val.s, .float .f64 x.val.n] 58)).size
    have hg5 : g ≠ wA.heap.size := Nat.ne_of_lt hrA.lt
    have HZ := Lib.hid hz2
    have HEX := Lib.hid hex2
    have HRA := Lib.hid (hrA.below (alloc1 wA (.cells #[.int .i64 x.op, .slice A' x.kids.length c', .string x.name, .int .i64 x.val.k, .int .i64 x.val.i, .bool x.val.b, .string x.val.s, .float .f64 x.val.n] 58)))
    have HON := Lib.hid (hon.below (alloc1 wA (.cells #[.int .i64 x.op, .slice A' x.kids.length c', .string x.name, .int .i64 x.val.k, .int .i64 x.val.i, .bool x.val.b, .string x.val.s, .float .f64 x.val.n] 58)))
    have HNB := Lib.hid (heap_alloc_new wA (.cells #[.int .i64 x.op, .slice A' x.kids.length c', .string x.name, .int .i64 x.val.k, .int .i64 x.val.i, .bool x.val.b, .string x.val.s, .float .f64 x.val.n] 58))
    clear hrA htA hz hz2 hon HCE hc0 hc1 hf hgl hex hex2
    go_upto_region 5 with fail
    generalize wA.alloc (.cells #[.int .i64 x.op, .slice A' x.kids.length c', .string x.name, .int .i64 x.val.k, .int .i64 x.val.i, .bool x.val.b, .string x.val.s, .float .f64 x.val.n] 58) = wB at *
    generalize wA.heap.size = b5 at *
    have v0 := (heap_at (HZ.out) 0).trans (rfl : _ = some (Value.int .i64 0))
    have v1 := (heap_at (HZ.out) 1).trans (rfl : _ = some (Value.slice none 0 0))
    have v2 := (heap_at (HZ.out) 2).trans (rfl : _ = some (Value.string ⟨#[]⟩))
    have v3 := (heap_at (HZ.out) 3).trans (rfl : _ = some (Value.int .i64 0))
    have v4 := (heap_at (HZ.out) 4).trans (rfl : _ = some (Value.int .i64 0))
    have v5 := (heap_at (HZ.out) 5).trans (rfl : _ = some (Value.bool false))
    have v6 := (heap_at (HZ.out) 6).trans (rfl : _ = some (Value.string ⟨#[]⟩))
    have v7 := (heap_at (HZ.out) 7).trans (rfl : _ = some (Value.float .f64 0))
    have x0 := (heap_at (HNB.out) 0).trans (rfl : _ = some (Value.int .i64 x.op))
    have x1 := (heap_at (HNB.out) 1).trans (rfl : _ = some (Value.slice A' x.kids.length c'))
    have x2 := (heap_at (HNB.out) 2).trans (rfl : _ = some (Value.string x.name))
    have x3 := (heap_at (HNB.out) 3).trans (rfl : _ = some (Value.int .i64 x.val.k))
    have x4 := (heap_at (HNB.out) 4).trans (rfl : _ = some (Value.int .i64 x.val.i))
    have x5 := (heap_at (HNB.out) 5).trans (rfl : _ = some (Value.bool x.val.b))
    have x6 := (heap_at (HNB.out) 6).trans (rfl : _ = some (Value.string x.val.s))
    have x7 := (heap_at (HNB.out) 7).trans (rfl : _ = some (Value.float .f64 x.val.n))
    have vf := heap_free (HZ.out)
    have vl : w.heap.size < wB.heap.size := (Array.getElem?_eq_some_iff.1 (HZ.out)).1
    go_wp2
    exact bodyPost_ret (v := .tuple #[agX x.op A' x.kids.length c' x.name x.val, .int .i64 0]) (by simp [results, Tryz.results146, go_sem, v0, v1, v2, v3, v4, v5, v6, v7, vl]) rfl (GxO.mk (x := x) HEX.out HRA.out HON.out HZ.out (Nat.le_refl _) hgb _ _ _ _ _ _ _ _)
/-- Get of the program -/
theorem eGet_any (g : Nat) (rest : List UInt8) (e : Int) (w : World) (hr : RdR w g rest e) (hlen : rest.length ≤ 1000000000000) : Calls Tryz.prog 146 #[.pointer (some ⟨g, 0, none⟩)] w (GxP g (getXE rest e) w) := by
  by_cases he : e = 0
  · subst he
    rw [show getXE rest 0 = getX 6 24 rest from if_pos rfl]
    exact eGet_walk g rest 0 _ (fun er h => getX_er 6 24 rest er h) w hr fun s W hgs h1 h2 => eReadParts_any g s hgs 6 24 1 rest W (by omega) (by decide) (by decide) (by decide) h1 h2 hlen
  · rw [show getXE rest e = .error e from if_neg he]
    exact eGet_walk g rest e (.error e) (fun er h => by injection h with h; exact h ▸ he) w hr fun s W hgs h1 h2 => readParts_late g s hgs e he rest W h1 h2 hlen
end Go.Proofs.YthgdnpcfdgimlabGreat

/- Layer 5: ExprBack. -/
namespace Go.Proofs.YthgdnpcfdgimlabGreat
open Go.RowKit
set_option linter.unusedVariables false
set_option linter.unusedSimpArgs false
set_option maxRecDepth 20000

theorem own_baseX {w : World} {base base' : Nat} {e : TypeId} {size : Nat} {v : Value} {n : Nat} {xs : List Value} (h : w.ownsRow base e size v n xs) (hb : base' ≤ base) : w.ownsRow base' e size v n xs :=
  ⟨h.1, h.2.imp id fun ⟨g, cap, cur, h1, h2, h3⟩ => ⟨g, cap, cur, h1, Nat.le_trans hb h2, h3⟩⟩
theorem size_list (s : ByteArray) : s.data.toList.length = s.size := by cases s; simp [ByteArray.size]
theorem shX_form : ∀ d e, formX d e → shX d e
  | 0, _, _ => trivial
  | d + 1, e, h => by
    obtain ⟨h1, h2, h3, h4, h5, h6⟩ := h
    refine ⟨by omega, ?_, fun k hk => shX_form d k (h6 k hk)⟩
    rcases h3 with h3 | h3
    · unfold goodV at h3
      simp only [Bool.and_eq_true, decide_eq_true_eq] at h3
      have h7 := h3.1.1.1.1.2
      rw [size_list]
      omega
    · rw [h3]
      show (⟨#[]⟩ : ByteArray).data.toList.length ≤ 1000
      simp
theorem check_small {e : Ex} {fs : List Fd} {k : Int} (h : checkX e fs = (k, 0)) : smallX e = true ∧ chkX 6 e fs = (k, 0) := by
  unfold checkX at h
  cases hs : smallX e with
  | true => rw [hs, if_pos rfl] at h; exact ⟨rfl, h⟩
  | false =>
    rw [hs, if_neg (by decide)] at h
    injection h with h1 h2
    cases h2
theorem form_back {e : Ex} {fs : List Fd} {k : Int} (hf : ∀ f ∈ fs, f.name.data.toList.length ≤ 16) (hok : okX 6 e) (h : checkX e fs = (k, 0)) : smallX e = true ∧ formX 6 e := by
  obtain ⟨h1, h2⟩ := check_small h
  exact ⟨h1, formX_of fs hf 6 e k hok ((smallX_iff e).1 h1).1 h2⟩
theorem txt_small {e : Ex} (h : smallX e = true) (hs : shX 6 e) : txtX 6 e := by
  obtain ⟨h1, h2⟩ := (smallX_iff e).1 h
  exact txtX_of 6 e h1 (by omega) hs
theorem get_back {e : Ex} (l : List UInt8) (h : smallX e = true) (hf : formX 6 e) : getXE (putE e ++ l) 0 = .ok (normX 6 e, 24 - sizeX 6 e, l) := by
  obtain ⟨h1, h2⟩ := (smallX_iff e).1 h
  have hp : putE e = putX 6 e := if_pos h
  rw [show getXE (putE e ++ l) 0 = getX 6 24 (putE e ++ l) from if_pos rfl, hp]
  exact getX_back 6 e 24 l hf (by omega)
theorem small_norm {e : Ex} (h : smallX e = true) : smallX (normX 6 e) = true := by
  obtain ⟨h1, h2⟩ := (smallX_iff e).1 h
  exact (smallX_iff _).2 ⟨normX_deep 6 e h1, by rw [normX_size]; exact h2⟩

end Go.Proofs.YthgdnpcfdgimlabGreat

/- Layer 6: contracts as bytes, by definition. -/
namespace Go.Proofs.YthgdnpcfdgimlabGreat
open Go.RowKit
set_option linter.unusedVariables false
set_option linter.unusedSimpArgs false

/-- bytes behind their number -/
def texB (s : ByteArray) : List UInt8 := be 4 s.data.toList.length ++ s.data.toList
def intB (n : Int) : List UInt8 := be 8 (w64 n)
/-- a list behind its count -/
def listB {α : Type} (put : α → List UInt8) (l : List α) : List UInt8 := be 4 l.length ++ l.flatMap put
def fldB (f : Fld) : List UInt8 := texB f.f.name ++ intB f.f.kind ++ listB texB f.en ++ valB f.y
def stgB (s : Stg) : List UInt8 := texB s.name ++ intB s.need ++ listB intB s.orgs
def effB (e : Eff) : List UInt8 := texB e.field ++ putE e.e
def mvB (m : Mv) : List UInt8 := texB m.name ++ intB m.frm ++ intB m.too ++ intB m.org ++ putE m.guard ++ listB effB m.effs
def ctrB (c : Ctr) : List UInt8 := texB c.name ++ listB fldB c.fs ++ listB stgB c.ss ++ listB mvB c.ms
/-- 6.2 -/
def putC (c : Ctr) : List UInt8 := if checkC c = 0 then ctrB c else []

theorem texB_len (s : ByteArray) : (texB s).length = 4 + s.data.toList.length := by unfold texB; rw [List.length_append, be_length]
theorem intB_len (n : Int) : (intB n).length = 8 := be_length _ _
theorem flatB_len {α : Type} (put : α → List UInt8) (n : Nat) : ∀ l : List α, (∀ x ∈ l, (put x).length ≤ n) → (l.flatMap put).length ≤ l.length * n
  | [], _ => Nat.zero_le _
  | x :: l, h => by
    rw [List.flatMap_cons, List.length_append, List.length_cons, Nat.add_mul, Nat.one_mul, Nat.add_comm]
    exact Nat.add_le_add (flatB_len put n l fun y hy => h y (List.mem_cons_of_mem _ hy)) (h x (List.mem_cons_self ..))
theorem listB_len {α : Type} (put : α → List UInt8) (n : Nat) (l : List α) (h : ∀ x ∈ l, (put x).length ≤ n) : (listB put l).length ≤ 4 + l.length * n := by
  unfold listB
  rw [List.length_append, be_length]
  exact Nat.add_le_add_left (flatB_len put n l h) _

/-! what is right is short -/
theorem name_short {s : ByteArray} (h : nameB s = true) : s.data.toList.length ≤ 16 := by
  unfold nameB at h
  simp only [Bool.and_eq_true, decide_eq_true_eq] at h
  rw [size_list]; omega
structure FldS (f : Fld) : Prop where
  nm : f.f.name.data.toList.length ≤ 16
  en : f.en.length ≤ 4
  tx : ∀ s ∈ f.en, s.data.toList.length ≤ 32
  vl : f.y.s.data.toList.length ≤ 32
  gd : goodV f.y = true
theorem fits_good {v : Vl} {k : Int} {l : List ByteArray} (h : fitsV v k l = 0) : goodV v = true ∧ v.k = k := by
  unfold fitsV at h
  cases hg : goodV v with
  | false => rw [hg] at h; simp at h
  | true =>
    rw [hg, Bool.true_and] at h
    by_cases hk : v.k = k
    · exact ⟨rfl, hk⟩
    · rw [if_neg (by simpa using hk)] at h
      simp at h
theorem good_short {v : Vl} (h : goodV v = true) : v.s.data.toList.length ≤ 32 := by
  unfold goodV at h
  simp only [Bool.and_eq_true, decide_eq_true_eq] at h
  have h7 := h.1.1.1.1.2
  rw [size_list]; omega
theorem fld_short {f : Fld} (h : fieldR f = true) : FldS f := by
  unfold fieldR at h
  simp only [Bool.and_eq_true, beq_iff_eq] at h
  obtain ⟨⟨h1, h2⟩, h3⟩ := h
  have hg := (fits_good h3).1
  unfold enumR at h2
  simp only [Bool.or_eq_true, Bool.and_eq_true, decide_eq_true_eq, List.isEmpty_iff, List.all_eq_true] at h2
  rcases h2 with h2 | ⟨⟨⟨-, h2⟩, -⟩, h4⟩
  · exact ⟨name_short h1, by rw [h2]; simp, by rw [h2]; simp, good_short hg, hg⟩
  · exact ⟨name_short h1, by omega, fun s hs => by have := h4 s hs; rw [size_list]; omega, good_short hg, hg⟩
structure StgS (s : Stg) : Prop where
  nm : s.name.data.toList.length ≤ 16
  og : s.orgs.length ≤ 4
theorem orgs_len : ∀ (l : List Int) (a : Int), -1 ≤ a → orgsR a l = true → a ≤ 3 → (l.length : Int) + a ≤ 3
  | [], a, _, _, h => by simpa using h
  | o :: l, a, ha, h, _ => by
    unfold orgsR at h
    simp only [Bool.and_eq_true, decide_eq_true_eq] at h
    have := orgs_len l o (by omega) h.2 h.1.2
    rw [List.length_cons]
    omega
theorem stg_short {s : Stg} (h : stageR s = true) : StgS s := by
  unfold stageR at h
  simp only [Bool.and_eq_true] at h
  have := orgs_len s.orgs (-1) (by omega) h.1.2 (by omega)
  exact ⟨name_short h.1.1, by omega⟩
theorem tells_form {e : Ex} {fs : List Fd} {k : Int} (hf : ∀ f ∈ fs, f.name.data.toList.length ≤ 16) (hok : ∀ d, okX d e) (h : tellsR e fs k = true) : smallX e = true ∧ formX 6 e ∧ checkX e fs = (k, 0) := by
  unfold tellsR at h
  simp only [Bool.and_eq_true, beq_iff_eq] at h
  have hc : checkX e fs = (k, 0) := Prod.ext h.2 h.1
  obtain ⟨h1, h2⟩ := form_back hf (hok 6) hc
  exact ⟨h1, h2, hc⟩
/-- an expression with short texts -/
theorem form_le : ∀ d e, formX d e → (putX d e).length ≤ 100 * sizeX d e
  | 0, e, _ => Nat.zero_le _
  | d + 1, e, h => by
    obtain ⟨h1, h2, h3, h4, h5, h6⟩ := h
    have hv : e.val.s.data.toList.length ≤ 32 := by
      rcases h3 with h3 | h3
      · exact good_short h3
      · rw [h3]; show (⟨#[]⟩ : ByteArray).data.toList.length ≤ 32; simp
    have hl : ∀ ks : List Ex, (∀ k ∈ ks, formX d k) → (ks.flatMap (putX d)).length ≤ 100 * (ks.map (sizeX d)).sum := by
      intro ks
      induction ks with
      | nil => intro _; exact Nat.zero_le _
      | cons k ks ih =>
        intro hk
        rw [List.flatMap_cons, List.length_append, List.map_cons, List.sum_cons, Nat.mul_add]
        exact Nat.add_le_add (form_le d k (hk k (List.mem_cons_self ..))) (ih fun x hx => hk x (List.mem_cons_of_mem _ hx))
    have hk := hl e.kids h6
    have hvl := valB_le e.val
    unfold putX sizeX
    simp only [List.length_append, be_length]
    rw [Nat.mul_add]
    omega
theorem putE_form {e : Ex} (hs : smallX e = true) (h : formX 6 e) : (putE e).length ≤ 2400 := by
  have hp : putE e = putX 6 e := if_pos hs
  rw [hp]
  have := form_le 6 e h
  have := ((smallX_iff e).1 hs).2
  omega
structure ExS6 (e : Ex) (fs : List Fd) (k : Int) : Prop where
  sm : smallX e = true
  fm : formX 6 e
  ck : checkX e fs = (k, 0)
  le : (putE e).length ≤ 2400
theorem tells_short {e : Ex} {fs : List Fd} {k : Int} (hf : ∀ f ∈ fs, f.name.data.toList.length ≤ 16) (hok : ∀ d, okX d e) (h : tellsR e fs k = true) : ExS6 e fs k := by
  obtain ⟨h1, h2, h3⟩ := tells_form hf hok h
  exact ⟨h1, h2, h3, putE_form h1 h2⟩
theorem ExS6.tx {e : Ex} {fs : List Fd} {k : Int} (h : ExS6 e fs k) : txtX 6 e := txt_small h.sm (shX_form 6 e h.fm)
structure EffS (fs : List Fd) (e : Eff) : Prop where
  at_ : 0 ≤ findX e.field fs 0
  fd : e.field.data.toList.length ≤ 16
  ex : ExS6 e.e fs (((fs[(findX e.field fs 0).toNat]?).map Fd.kind).getD 0)
theorem find_name (nm : ByteArray) : ∀ (fs : List Fd) (i : Nat), 0 ≤ findX nm fs i → ∃ f ∈ fs, f.name.toList = nm.toList
  | [], i, h => by unfold findX at h; omega
  | f :: fs, i, h => by
    unfold findX at h
    by_cases hf : f.name.toList == nm.toList
    · exact ⟨f, List.mem_cons_self .., by simpa using hf⟩
    · rw [if_neg hf] at h
      obtain ⟨g, h1, h2⟩ := find_name nm fs (i + 1) h
      exact ⟨g, List.mem_cons_of_mem _ h1, h2⟩
theorem data_of_toList {a b : ByteArray} (h : a.toList = b.toList) : a.data.toList = b.data.toList := by
  rwa [ByteArray.toList_eq, ByteArray.toList_eq] at h
theorem eff_short {fs : List Fd} {e : Eff} (hf : ∀ f ∈ fs, f.name.data.toList.length ≤ 16) (hok : ∀ d, okX d e.e) (h : effR fs e = true) : EffS fs e := by
  unfold effR at h
  simp only [Bool.and_eq_true, decide_eq_true_eq] at h
  obtain ⟨f, h1, h2⟩ := find_name e.field fs 0 h.1
  exact ⟨h.1, by rw [← data_of_toList h2]; exact hf f h1, tells_short hf hok h.2⟩
structure MvS (ct : Ctr) (m : Mv) : Prop where
  nm : m.name.data.toList.length ≤ 16
  gd : ExS6 m.guard (ct.fs.map Fld.f) 2
  ef : m.effs.length ≤ 4
  es : ∀ e ∈ m.effs, EffS (ct.fs.map Fld.f) e
theorem mv_short {ct : Ctr} {m : Mv} (hf : ∀ f ∈ ct.fs.map Fld.f, f.name.data.toList.length ≤ 16) (hok : (∀ k, okX k m.guard) ∧ ∀ e ∈ m.effs, ∀ k, okX k e.e) (h : moveR ct m = true) : MvS ct m := by
  unfold moveR effsR at h
  simp only [Bool.and_eq_true, decide_eq_true_eq, List.all_eq_true] at h
  obtain ⟨⟨⟨⟨⟨h1, -⟩, -⟩, -⟩, h5⟩, ⟨h6, -⟩, h7⟩ := h
  exact ⟨name_short h1, tells_short hf hok.1 h5, by omega, fun e he => eff_short hf (hok.2 e he) (h7 e he)⟩
/-- a right contract is short -/
structure CtrS (c : Ctr) : Prop where
  nm : c.name.data.toList.length ≤ 16
  fn : c.fs.length ≤ 6
  fs : ∀ f ∈ c.fs, FldS f
  sn : c.ss.length ≤ 6
  ss : ∀ s ∈ c.ss, StgS s
  mn : c.ms.length ≤ 8
  ms : ∀ m ∈ c.ms, MvS c m
theorem check_parts {c : Ctr} (h : checkC c = 0) : nameB c.name = true ∧ fieldsR c = true ∧ stagesR c = true ∧ movesR c = true := by
  unfold checkC at h
  cases h1 : nameB c.name <;> cases h2 : fieldsR c <;> cases h3 : stagesR c <;> cases h4 : movesR c <;> simp [h1, h2, h3, h4] at h ⊢
theorem fields_names {c : Ctr} (h : fieldsR c = true) : ∀ f ∈ c.fs.map Fld.f, f.name.data.toList.length ≤ 16 := fun f hf => by
  unfold fieldsR at h
  simp only [Bool.and_eq_true, decide_eq_true_eq, List.all_eq_true] at h
  obtain ⟨g, hg, rfl⟩ := List.mem_map.1 hf
  exact (fld_short (h.2 g hg)).nm
theorem ctr_short {c : Ctr} (hok : okC c) (h : checkC c = 0) : CtrS c := by
  obtain ⟨h1, h2, h3, h4⟩ := check_parts h
  have hn := fields_names h2
  unfold fieldsR at h2
  unfold stagesR at h3
  unfold movesR at h4
  simp only [Bool.and_eq_true, decide_eq_true_eq, List.all_eq_true] at h2 h3 h4
  exact ⟨name_short h1, by omega, fun f hf => fld_short (h2.2 f hf), by omega, fun s hs => stg_short (h3.2 s hs), by omega, fun m hm => mv_short hn ⟨(hok.m m hm).2.2.2.1, (hok.m m hm).2.2.2.2⟩ (h4.2 m hm)⟩
theorem FldS.le {f : Fld} (h : FldS f) : (fldB f).length ≤ 300 := by
  have h1 := h.nm; have h2 := h.en; have h3 := h.vl
  have h4 := listB_len texB 36 f.en (fun s hs => by rw [texB_len]; have := h.tx s hs; omega)
  have h5 := valB_le f.y
  unfold fldB
  simp only [List.length_append, texB_len, intB_len]
  have : f.en.length * 36 ≤ 4 * 36 := Nat.mul_le_mul_right _ h2
  omega
theorem StgS.le {s : Stg} (h : StgS s) : (stgB s).length ≤ 100 := by
  have h1 := h.nm; have h2 := h.og
  have h4 := listB_len intB 8 s.orgs (fun s hs => by rw [intB_len]; omega)
  unfold stgB
  simp only [List.length_append, texB_len, intB_len]
  have : s.orgs.length * 8 ≤ 4 * 8 := Nat.mul_le_mul_right _ h2
  omega
theorem EffS.le {fs : List Fd} {e : Eff} (h : EffS fs e) : (effB e).length ≤ 2500 := by
  have h1 := h.fd; have h2 := h.ex.le
  unfold effB
  simp only [List.length_append, texB_len]
  omega
theorem MvS.le {c : Ctr} {m : Mv} (h : MvS c m) : (mvB m).length ≤ 13000 := by
  have h1 := h.nm; have h2 := h.ef; have h3 := h.gd.le
  have h4 := listB_len effB 2500 m.effs (fun e he => (h.es e he).le)
  unfold mvB
  simp only [List.length_append, texB_len, intB_len]
  have : m.effs.length * 2500 ≤ 4 * 2500 := Nat.mul_le_mul_right _ h2
  omega
theorem CtrS.le {c : Ctr} (h : CtrS c) : (ctrB c).length ≤ 110000 := by
  have h1 := h.nm
  have h2 := listB_len fldB 300 c.fs (fun f hf => (h.fs f hf).le)
  have h3 := listB_len stgB 100 c.ss (fun f hf => (h.ss f hf).le)
  have h4 := listB_len mvB 13000 c.ms (fun f hf => (h.ms f hf).le)
  have := Nat.mul_le_mul_right 300 h.fn
  have := Nat.mul_le_mul_right 100 h.sn
  have := Nat.mul_le_mul_right 13000 h.mn
  unfold ctrB
  simp only [List.length_append, texB_len]
  omega
end Go.Proofs.YthgdnpcfdgimlabGreat

/- Layer 6: rows of bytes behind one another, by the program. (Made by gen/gencput.py.) -/
namespace Go.Proofs.YthgdnpcfdgimlabGreat
open Go.RowKit
set_option linter.unusedVariables false
set_option linter.unusedSimpArgs false
set_option maxRecDepth 20000

theorem Grow_nil (n : Nat) (w : World) (hn : n ≤ 1000000000) : Calls Tryz.prog 84 #[.slice none 0 0, .int .i64 n] w (fun e w' => ∃ v, e = .returned v ∧ w'.ownsRow w.heap.size 5 1 v 0 [] ∧ Below w.heap.size w w') := by
  obtain ⟨i0, hi, hz0, hz1, hz2⟩ := info_parts u8info
  have hw0 : IntKind.i64.wrap ((n : Int) - (0 - 0)) = (n : Int) := by rw [IntKind.wrap_i64]; omega
  have hneg : ¬ (n : Int) < 0 := by omega
  by_cases h0 : n = 0
  · subst h0
    go_enter Tryz.func84, Tryz.ntmps84
    go_wp2
    go_ret
    exact ⟨_, rfl, World.ownsRow_nil _ _ _ _, Below.refl _ _⟩
  · have hpos : (0 : Int) < (n : Int) := by omega
    have hrun := fun ty => Lib.run_append_nil_zeros (P := Tryz.prog) w 34 3 ty 5 i0 (.int .u8 0) .i64 .i64 Tryz.underlying34 Tryz.underlying3 hi hz0 n (by omega) (by rw [hz1]; decide) (by omega) (by rw [hz2]; omega)
    have hcap := grownCap_ge w n 0 5
    have hcm := grownCap_le_maxLen w n 0 5 (by unfold maxLen; omega)
    have HRUN := Lib.hid hrun
    clear hrun
    generalize hgc : grownCap w n 0 5 = gc at *
    have hown : (w.drew.alloc (.cells (Builtin.zeroCells (Value.int .u8 0).cells n ++ Builtin.zeroCells (Value.int .u8 0).cells (gc - n)) 5)).ownsRow w.heap.size 5 1 (.slice (some ⟨w.heap.size, 0, none⟩) 0 gc) 0 [] := by
      refine ⟨rfl, .inr ⟨w.heap.size, gc, _, rfl, Nat.le_refl _, heap_alloc_new w.drew _, Nat.zero_le _, hcm, ?_, by simp⟩⟩
      simp [Builtin.zeroCells, Value.cells]
      omega
    have HOWN := Lib.hid hown
    have HBB := Lib.hid ((Below.refl w.heap.size w).drew.alloc (Nat.le_refl _) (.cells (Builtin.zeroCells (Value.int .u8 0).cells n ++ Builtin.zeroCells (Value.int .u8 0).cells (gc - n)) 5))
    clear hown
    go_enter Tryz.func84, Tryz.ntmps84
    go_wp2_with (at_builtin; refine Lib.wpList_append_run _ rfl _ _ _ _ rfl _ _ rfl rfl _ _ (HRUN.out _) ?_)
    go_ret
    exact ⟨_, rfl, HOWN.out, HBB.out⟩
theorem flat_take (ls : List (List UInt8)) (k : Nat) (hk : k < ls.length) : (ls.take (k + 1)).flatten = (ls.take k).flatten ++ ls[k] := by
  rw [List.take_succ_eq_append_getElem hk, List.flatten_append]
  simp
theorem flat_take_le (ls : List (List UInt8)) (k : Nat) : (ls.take k).flatten.length ≤ ls.flatten.length := by
  have h : ls.flatten = (ls.take k).flatten ++ (ls.drop k).flatten := by rw [← List.flatten_append, List.take_append_drop]
  rw [h, List.length_append]; omega
set_option maxHeartbeats 2000000 in
theorem Concat_any (v : Value) (ls : List (List UInt8)) (w : World) (hv : Bss w v ls) (hs : ls.flatten.length ≤ 1000000000) : Calls Tryz.prog 46 #[v] w (Puts w ls.flatten) := by
  obtain ⟨i0, hi, hz0, hz1, hz2⟩ := info_parts u8info
  obtain ⟨A, c, rfl, hc, hm, hx⟩ := hv.open
  unfold maxLen at hm
  have hlen : ls.length ≤ 9223372036854775807 := by omega
  have HX := Lib.hid hx
  have hP : ∃ P : Nat → List UInt8, P 0 = [] ∧ P ls.length = ls.flatten ∧ (∀ (k : Nat) (hk : k < ls.length), P (k + 1) = P k ++ ls[k]) ∧ ∀ k, (P k).length ≤ ls.flatten.length :=
    ⟨fun k => (ls.take k).flatten, rfl, by simp, flat_take ls, flat_take_le ls⟩
  obtain ⟨P, p0, p1, p2, p3⟩ := hP
  have HG := Lib.hid (Grow_nil ls.flatten.length w hs)
  generalize ls.flatten = fl at *
  have HS := Lib.hid hs
  have HT := Lib.hid p2
  have HTL := Lib.hid p3
  have P0 := Lib.hid p0
  have P1 := Lib.hid p1
  clear hx hv hs hc hm p0 p1 p2 p3
  go_enter Tryz.func46, Tryz.ntmps46
  go_wp2
  go_loop [3, 11] (fun s i => ∃ k : Nat, k ≤ ls.length ∧ i = .int .i64 k ∧ s = .int .i64 ((P k).length : Nat)) (fun _ i => ls.length - (intOf i).toNat)
  case atStart => exact ⟨0, Nat.zero_le _, rfl, by rw [P0.out]; rfl⟩
  case round =>
    obtain ⟨k, hk, rfl, rfl⟩ := hrel
    by_cases hlt : k < ls.length
    · have hltI : (k : Int) < (ls.length : Int) := by omega
      obtain ⟨ad, x, rfl, hbl, hcell, hbx⟩ := HX.out k hlt
      obtain ⟨A2, c2, rfl, -, -, -, -⟩ := hbx.open
      clear hbx
      have ht := HT.out k hlt
      have hle := HTL.out (k + 1)
      have hl2 : (P (k + 1)).length = (P k).length + ls[k].length := by rw [ht, List.length_append]
      have hs2 := HS.out
      have hw : IntKind.i64.wrap ((((P k).length : Nat) : Int) + ((ls[k].length : Nat) : Int)) = (((P (k + 1)).length : Nat) : Int) := by
        rw [IntKind.wrap_i64]; omega
      have hnn : ¬ (((P (k + 1)).length : Nat) : Int) < 0 := by omega
      clear ht hle hs2 hl2
      generalize ls[k].length = m at *
      generalize hqq : (P (k + 1)).length = q at *
      generalize hpk : (P k).length = pk at *
      go_wp2
      go_round
      case rel => exact ⟨k + 1, by omega, by go_num, by rw [hqq]⟩
      case measure => simp [intOf]; omega
    · obtain rfl : k = ls.length := by omega
      have hltI : ¬ (ls.length : Int) < (ls.length : Int) := by omega
      rw [P1.out]
      go_wp2_with fail
      refine HG.out.mono ?_
      rintro _ w1 ⟨v1, rfl, hown1, hb1⟩
      have HO1 := Lib.hid hown1
      have HB1 := Lib.hid hb1
      clear hown1 hb1 HG
      go_wp2
      go_loopw [6, 27] (fun b i wr => ∃ k : Nat, k ≤ ls.length ∧ i = .int .i64 k ∧ wr.ownsRow w.heap.size 5 1 b (P k).length ((P k).map bc) ∧ Below w.heap.size w wr) (fun _ i _ => ls.length - (intOf i).toNat)
      case atStart => exact ⟨0, Nat.zero_le _, rfl, by rw [P0.out]; exact HO1.out, HB1.out⟩
      case round =>
        obtain ⟨k, hk, rfl, hown, hb⟩ := hrel
        have HO := Lib.hid hown
        have HB := Lib.hid hb
        clear hown hb HO1 HB1
        by_cases hlt : k < ls.length
        · have hltI : (k : Int) < (ls.length : Int) := by omega
          obtain ⟨ad, x, rfl, hbl, hcell, hbx⟩ := HX.out k hlt
          have hcell2 := (HB.out.cell (p := ad.add k) (by rw [block_add]; exact hbl)).trans hcell
          have HV := Lib.hid (Rd.below hbx HB.out (Nat.le_refl _))
          have ht := HT.out k hlt
          have HTT := Lib.hid ht
          have hle := HTL.out (k + 1)
          rw [ht, List.length_append] at hle
          have hs2 := HS.out
          have hq1 : (P k).length + (ls[k].map bc).length ≤ maxLen := by rw [List.length_map]; unfold maxLen; omega
          have hq2 : ((P k).length + (ls[k].map bc).length) * 1 ≤ 140737488355328 := by rw [List.length_map]; omega
          have HQ := Lib.hid (And.intro hq1 hq2)
          clear ht hle hs2 hbx hcell hq1 hq2
          go_wp2_with (at_builtin; refine wpList_append_rd _ rfl _ _ 34 rfl w.heap.size 5 i0 (.int .u8 0) 1 Tryz.underlying34 hi hz0 hz1 hz2 rfl _ _ _ rfl HO.out _ _ rfl HV.out (bc_one _) HQ.out.1 HQ.out.2 HB.out.size ?_; intro v5 w5 hown5 hgr5; have HB5 := Lib.hid (HB.out.grown hgr5 HB.out.size (fun k hk => (HO.out.lt k hk).1)); rw [← List.map_append, List.length_map, ← List.length_append, ← HTT.out] at hown5)
          go_roundw
          case rel => exact ⟨k + 1, by omega, by go_num, hown5, HB5.out⟩
          case measure => simp [intOf]; omega
        · obtain rfl : k = ls.length := by omega
          have hltI : ¬ (ls.length : Int) < (ls.length : Int) := by omega
          rw [P1.out] at HO
          go_wp2
          go_ret
          exact ⟨_, rfl, HO.out, HB.out⟩
theorem own_bs {w : World} {B : Nat} {v : Value} {n : Nat} {l : List UInt8} (h : w.ownsRow B 5 1 v n (l.map bc)) : Bs w v l := Rd.of_own h
/-- rows that were built -/
def AllBs (W : World) : List Value → List (List UInt8) → Prop
  | [], [] => True
  | x :: vs, l :: ls => Bs W x l ∧ AllBs W vs ls
  | _, _ => False
theorem AllBs.len {W : World} : ∀ {vs : List Value} {ls : List (List UInt8)}, AllBs W vs ls → vs.length = ls.length
  | [], [], _ => rfl
  | x :: vs, l :: ls, h => by rw [List.length_cons, List.length_cons, AllBs.len h.2]
theorem AllBs.at {W : World} : ∀ {vs : List Value} {ls : List (List UInt8)}, AllBs W vs ls → ∀ (k : Nat) (x : Value) (l : List UInt8), vs[k]? = some x → ls[k]? = some l → Bs W x l
  | x :: vs, l :: ls, h, 0, y, m, h1, h2 => by
    injection h1 with h1
    injection h2 with h2
    subst h1 h2
    exact h.1
  | x :: vs, l :: ls, h, k + 1, y, m, h1, h2 => AllBs.at h.2 k y m h1 h2
theorem bss_built (W : World) (vs : List Value) (ls : List (List UInt8)) (n : Nat) (hn : n = ls.length) (hm : n ≤ 1000) (h : AllBs W vs ls) : Bss (W.alloc (.cells vs.toArray 34)) (.slice (some ⟨W.heap.size, 0, none⟩) n n) ls := by
  have hl := h.len
  refine ⟨vs, ⟨some ⟨W.heap.size, 0, none⟩, n, by rw [hl, hn], by omega, by unfold maxLen; omega, (fun h => by cases h), fun _ => ⟨_, rfl, by simp, fun j u hj => ?_⟩⟩, hl, fun k x l hx hy => (h.at k x l hx hy).below (alloc1 W _) (Nat.le_refl _)⟩
  rw [Addr.add_lit, Nat.zero_add]
  exact (cell_of_row _ _ j _ _ (0, 0) (heap_alloc_new W _)).trans (by simpa using hj)
theorem putText_any (s : ByteArray) (w : World) (h : s.data.toList.length ≤ 1000) : Calls Tryz.prog 47 #[.string s] w (Puts w (texB s)) := by
  have hcv := fun (W : World) => Lib.run_convert_string_bytes (P := Tryz.prog) W 9 34 5 s Tryz.underlying9 Tryz.underlying34 Tryz.underlying5
  have HQ := Lib.hid (fun u W (hu : Bs W u s.data.toList) => PutBytes_any (.slice none 0 0) u [] _ W (Bs.nil W) hu (by simp) (by omega))
  have HBW := Lib.hid (text_bs s h)
  have HBB := Lib.hid (bytesWorld_below w 5 s)
  unfold texB
  generalize s.data.toList = l at *
  go_enter Tryz.func47, Tryz.ntmps47
  go_wp2_with (go_at_call 85; refine (HQ.out _ _ (HBW.out _)).mono ?_; rintro e w1 ⟨v1, rfl, ho1, hb1⟩)
  go_ret
  exact ⟨_, rfl, own_baseX (by simpa using ho1) HBB.out.size, bel2 HBB.out hb1⟩
theorem putInt_any (n : Int) (w : World) : Calls Tryz.prog 87 #[.int .i64 n] w (Puts w (intB n)) := by
  have HQ := Lib.hid (PutInt_any (.slice none 0 0) [] n w (Bs.nil w) (by simp))
  unfold intB
  go_enter Tryz.func87, Tryz.ntmps87
  go_wp2_with (go_at_call 133; refine HQ.out.mono ?_; rintro e w1 ⟨v1, rfl, ho1, hb1⟩)
  go_ret
  exact ⟨_, rfl, by simpa using ho1, hb1⟩
end Go.Proofs.YthgdnpcfdgimlabGreat

/- Layer 6: IndexFunc over a contract's rows. (Made by gen/gencfind.py.) -/
namespace Go.Proofs.YthgdnpcfdgimlabGreat
open Go.RowKit
set_option linter.unusedVariables false
set_option linter.unusedSimpArgs false
set_option maxRecDepth 20000

/-- the place of the first that is so, from i on; -1: none -/
def firstB {α : Type} (P : α → Bool) : List α → Nat → Int
  | [], _ => -1
  | x :: l, i => if P x = true then i else firstB P l (i + 1)
abbrev agFl (x : Fld) (A : Option Addr) (c : Nat) : Value := .agg #[.string x.f.name, .int .i64 x.f.kind, .slice A x.en.length c, .int .i64 x.y.k, .int .i64 x.y.i, .bool x.y.b, .string x.y.s, .float .f64 x.y.n]
abbrev agSt (x : Stg) (A : Option Addr) (c : Nat) : Value := .agg #[.string x.name, .int .i64 x.need, .slice A x.orgs.length c]
abbrev agMv (x : Mv) (A : Option Addr) (c : Nat) (EA : Option Addr) (ec : Nat) : Value := .agg #[.string x.name, .int .i64 x.frm, .int .i64 x.too, .int .i64 x.guard.op, .slice A x.guard.kids.length c, .string x.guard.name, .int .i64 x.guard.val.k, .int .i64 x.guard.val.i, .bool x.guard.val.b, .string x.guard.val.s, .float .f64 x.guard.val.n, .slice EA x.effs.length ec, .int .i64 x.org]
set_option maxHeartbeats 1000000 in
/-- IndexFunc over a row of Fld, by the closure quaestor/contract.Field 1 -/
theorem idx_Field (P : Fld → Bool) (p : Nat) (A : Option Addr) (cc : Nat) (l : List Fld) (w : World) (hf : FldK w A cc l)
    (hcall : ∀ x ∈ l, ∀ (A : Option Addr) (c : Nat) W, Below w.heap.size w W → Ss W (.slice A x.en.length c) x.en → Calls Tryz.prog 40 #[agFl x A c, .pointer (some ⟨p, 0, none⟩)] W (VMk (.bool (P x)) W)) :
    Calls Tryz.prog 39 #[.slice A l.length cc, .func (Fn.func 40) #[] #[.pointer (some ⟨p, 0, none⟩)]] w (VMk (.int .i64 (firstB P l 0)) w) := by
  obtain ⟨h1, h2, h3, h4⟩ := hf
  unfold maxLen at h2
  have hlen : l.length ≤ 9223372036854775807 := by omega
  have HP := Lib.hid hcall
  have H4 := Lib.hid h4
  clear hcall h4 h1 h2 h3
  have hsf := fun (w : World) (a : Addr) (m : Mode) (b : Nat) => run_store Tryz.prog w a (.float .f64 b) m rfl
  go_enter Tryz.func39, Tryz.ntmps39
  go_wp2
  go_loopw [8] (fun i wr => ∃ k : Nat, k ≤ l.length ∧ i = .int .i64 k ∧ firstB P (l.drop k) k = firstB P l 0 ∧ Below w.heap.size w wr) (fun i _ => l.length - (intOf i).toNat)
  case atStart => exact ⟨0, Nat.zero_le _, rfl, rfl, Below.refl _ _⟩
  case round =>
    obtain ⟨k, hk, rfl, hfi, hb⟩ := hrel
    by_cases hlt : k < l.length
    · obtain ⟨ad, rfl, hbl, hpart⟩ := H4.out k hlt
      have hpart2 := hpart.below hb (by rw [block_add]; exact hbl)
      have hmem := List.getElem_mem hlt
      rw [List.drop_eq_getElem_cons hlt, firstB] at hfi
      generalize l[k] = x at *
      obtain ⟨A, c, hq, hdeep⟩ := hpart2
      have q0 : wr.cell? (ad.add (k * 8)) = some (.string x.f.name) := hq.1
      have q1 : wr.cell? ⟨(ad.add (k * 8)).block, (ad.add (k * 8)).off + 1, none⟩ = some (.int .i64 x.f.kind) := hq.2.1
      have q2 : wr.cell? ⟨(ad.add (k * 8)).block, (ad.add (k * 8)).off + 2, none⟩ = some (.slice A x.en.length c) := hq.2.2.1
      have q3 : wr.cell? ⟨(ad.add (k * 8)).block, (ad.add (k * 8)).off + 3, none⟩ = some (.int .i64 x.y.k) := hq.2.2.2.1
      have q4 : wr.cell? ⟨(ad.add (k * 8)).block, (ad.add (k * 8)).off + 4, none⟩ = some (.int .i64 x.y.i) := hq.2.2.2.2.1
      have q5 : wr.cell? ⟨(ad.add (k * 8)).block, (ad.add (k * 8)).off + 5, none⟩ = some (.bool x.y.b) := hq.2.2.2.2.2.1
      have q6 : wr.cell? ⟨(ad.add (k * 8)).block, (ad.add (k * 8)).off + 6, none⟩ = some (.string x.y.s) := hq.2.2.2.2.2.2.1
      have q7 : wr.cell? ⟨(ad.add (k * 8)).block, (ad.add (k * 8)).off + 7, none⟩ = some (.float .f64 x.y.n) := hq.2.2.2.2.2.2.2
      have hc := HP.out x hmem A c wr hb hdeep
      clear hpart hmem
      rcases hd : P x with _ | _
      all_goals
        rw [hd] at hc hfi
        have HC := Lib.hid hc
        have HF := Lib.hid hfi
        clear hc hfi hd hq hdeep
        go_wp2_with (go_at_call 40; refine HC.out.mono ?_; rintro e w1 ⟨rfl, hb1⟩)
      · go_roundw
        case rel => exact ⟨k + 1, by omega, by go_num, by have h := HF.out; rwa [if_neg (by decide)] at h, hb.trans (hb1.mono hb.size)⟩
        case measure => simp [intOf]; omega
      · go_ret
        exact ⟨ret_int (by have h := HF.out; simpa using h), hb.trans (hb1.mono hb.size)⟩
    · obtain rfl : k = l.length := by omega
      rw [List.drop_length, firstB] at hfi
      have HF := Lib.hid hfi
      clear hfi
      go_wp2
      go_ret
      exact ⟨ret_int HF.out, hb⟩
set_option maxHeartbeats 1000000 in
/-- IndexFunc over a row of Stg, by the closure quaestor/contract.Stage 1 -/
theorem idx_Stage (P : Stg → Bool) (p : Nat) (A : Option Addr) (cc : Nat) (l : List Stg) (w : World) (hf : StgK w A cc l)
    (hcall : ∀ x ∈ l, ∀ (A : Option Addr) (c : Nat) W, Below w.heap.size w W → Is W (.slice A x.orgs.length c) x.orgs → Calls Tryz.prog 42 #[agSt x A c, .pointer (some ⟨p, 0, none⟩)] W (VMk (.bool (P x)) W)) :
    Calls Tryz.prog 41 #[.slice A l.length cc, .func (Fn.func 42) #[] #[.pointer (some ⟨p, 0, none⟩)]] w (VMk (.int .i64 (firstB P l 0)) w) := by
  obtain ⟨h1, h2, h3, h4⟩ := hf
  unfold maxLen at h2
  have hlen : l.length ≤ 9223372036854775807 := by omega
  have HP := Lib.hid hcall
  have H4 := Lib.hid h4
  clear hcall h4 h1 h2 h3
  have hsf := fun (w : World) (a : Addr) (m : Mode) (b : Nat) => run_store Tryz.prog w a (.float .f64 b) m rfl
  go_enter Tryz.func41, Tryz.ntmps41
  go_wp2
  go_loopw [8] (fun i wr => ∃ k : Nat, k ≤ l.length ∧ i = .int .i64 k ∧ firstB P (l.drop k) k = firstB P l 0 ∧ Below w.heap.size w wr) (fun i _ => l.length - (intOf i).toNat)
  case atStart => exact ⟨0, Nat.zero_le _, rfl, rfl, Below.refl _ _⟩
  case round =>
    obtain ⟨k, hk, rfl, hfi, hb⟩ := hrel
    by_cases hlt : k < l.length
    · obtain ⟨ad, rfl, hbl, hpart⟩ := H4.out k hlt
      have hpart2 := hpart.below hb (by rw [block_add]; exact hbl)
      have hmem := List.getElem_mem hlt
      rw [List.drop_eq_getElem_cons hlt, firstB] at hfi
      generalize l[k] = x at *
      obtain ⟨A, c, h0, h1, h2, hdeep⟩ := hpart2
      have q0 : wr.cell? (ad.add (k * 3)) = some (.string x.name) := h0
      have q1 : wr.cell? ⟨(ad.add (k * 3)).block, (ad.add (k * 3)).off + 1, none⟩ = some (.int .i64 x.need) := h1
      have q2 : wr.cell? ⟨(ad.add (k * 3)).block, (ad.add (k * 3)).off + 2, none⟩ = some (.slice A x.orgs.length c) := h2
      have hc := HP.out x hmem A c wr hb hdeep
      clear hpart hmem
      rcases hd : P x with _ | _
      all_goals
        rw [hd] at hc hfi
        have HC := Lib.hid hc
        have HF := Lib.hid hfi
        clear hc hfi hd hdeep
        go_wp2_with (go_at_call 42; refine HC.out.mono ?_; rintro e w1 ⟨rfl, hb1⟩)
      · go_roundw
        case rel => exact ⟨k + 1, by omega, by go_num, by have h := HF.out; rwa [if_neg (by decide)] at h, hb.trans (hb1.mono hb.size)⟩
        case measure => simp [intOf]; omega
      · go_ret
        exact ⟨ret_int (by have h := HF.out; simpa using h), hb.trans (hb1.mono hb.size)⟩
    · obtain rfl : k = l.length := by omega
      rw [List.drop_length, firstB] at hfi
      have HF := Lib.hid hfi
      clear hfi
      go_wp2
      go_ret
      exact ⟨ret_int HF.out, hb⟩
set_option maxHeartbeats 1000000 in
/-- IndexFunc over a row of Mv, by the closure quaestor/contract.Move 1 -/
theorem idx_Move (P : Mv → Bool) (p : Nat) (A : Option Addr) (cc : Nat) (l : List Mv) (w : World) (hf : MvK w A cc l)
    (hcall : ∀ x ∈ l, ∀ (A : Option Addr) (c : Nat) (EA : Option Addr) (ec : Nat) W, Below w.heap.size w W → (ExE W A c x.guard ∧ EffK W EA ec x.effs) → Calls Tryz.prog 44 #[agMv x A c EA ec, .pointer (some ⟨p, 0, none⟩)] W (VMk (.bool (P x)) W)) :
    Calls Tryz.prog 43 #[.slice A l.length cc, .func (Fn.func 44) #[] #[.pointer (some ⟨p, 0, none⟩)]] w (VMk (.int .i64 (firstB P l 0)) w) := by
  obtain ⟨h1, h2, h3, h4⟩ := hf
  unfold maxLen at h2
  have hlen : l.length ≤ 9223372036854775807 := by omega
  have HP := Lib.hid hcall
  have H4 := Lib.hid h4
  clear hcall h4 h1 h2 h3
  have hsf := fun (w : World) (a : Addr) (m : Mode) (b : Nat) => run_store Tryz.prog w a (.float .f64 b) m rfl
  go_enter Tryz.func43, Tryz.ntmps43
  go_wp2
  go_loopw [8] (fun i wr => ∃ k : Nat, k ≤ l.length ∧ i = .int .i64 k ∧ firstB P (l.drop k) k = firstB P l 0 ∧ Below w.heap.size w wr) (fun i _ => l.length - (intOf i).toNat)
  case atStart => exact ⟨0, Nat.zero_le _, rfl, rfl, Below.refl _ _⟩
  case round =>
    obtain ⟨k, hk, rfl, hfi, hb⟩ := hrel
    by_cases hlt : k < l.length
    · obtain ⟨ad, rfl, hbl, hpart⟩ := H4.out k hlt
      have hpart2 := hpart.below hb (by rw [block_add]; exact hbl)
      have hmem := List.getElem_mem hlt
      rw [List.drop_eq_getElem_cons hlt, firstB] at hfi
      generalize l[k] = x at *
      obtain ⟨A, c, EA, ec, h0, h1, h2, hk, he, h11, h12, hek⟩ := hpart2
      have q0 : wr.cell? (ad.add (k * 13)) = some (.string x.name) := h0
      have q1 : wr.cell? ⟨(ad.add (k * 13)).block, (ad.add (k * 13)).off + 1, none⟩ = some (.int .i64 x.frm) := h1
      have q2 : wr.cell? ⟨(ad.add (k * 13)).block, (ad.add (k * 13)).off + 2, none⟩ = some (.int .i64 x.too) := h2
      have q3 : wr.cell? ⟨(ad.add (k * 13)).block, (ad.add (k * 13)).off + 3, none⟩ = some (.int .i64 x.guard.op) := hk.1
      have q4 : wr.cell? ⟨(ad.add (k * 13)).block, (ad.add (k * 13)).off + 4, none⟩ = some (.slice A x.guard.kids.length c) := hk.2.1
      have q5 : wr.cell? ⟨(ad.add (k * 13)).block, (ad.add (k * 13)).off + 5, none⟩ = some (.string x.guard.name) := hk.2.2.1
      have q6 : wr.cell? ⟨(ad.add (k * 13)).block, (ad.add (k * 13)).off + 6, none⟩ = some (.int .i64 x.guard.val.k) := hk.2.2.2.1
      have q7 : wr.cell? ⟨(ad.add (k * 13)).block, (ad.add (k * 13)).off + 7, none⟩ = some (.int .i64 x.guard.val.i) := hk.2.2.2.2.1
      have q8 : wr.cell? ⟨(ad.add (k * 13)).block, (ad.add (k * 13)).off + 8, none⟩ = some (.bool x.guard.val.b) := hk.2.2.2.2.2.1
      have q9 : wr.cell? ⟨(ad.add (k * 13)).block, (ad.add (k * 13)).off + 9, none⟩ = some (.string x.guard.val.s) := hk.2.2.2.2.2.2.1
      have q10 : wr.cell? ⟨(ad.add (k * 13)).block, (ad.add (k * 13)).off + 10, none⟩ = some (.float .f64 x.guard.val.n) := hk.2.2.2.2.2.2.2
      have q11 : wr.cell? ⟨(ad.add (k * 13)).block, (ad.add (k * 13)).off + 11, none⟩ = some (.slice EA x.effs.length ec) := h11
      have q12 : wr.cell? ⟨(ad.add (k * 13)).block, (ad.add (k * 13)).off + 12, none⟩ = some (.int .i64 x.org) := h12
      have hc := HP.out x hmem A c EA ec wr hb ⟨he, hek⟩
      clear hpart hmem
      rcases hd : P x with _ | _
      all_goals
        rw [hd] at hc hfi
        have HC := Lib.hid hc
        have HF := Lib.hid hfi
        clear hc hfi hd he hek
        go_wp2_with (go_at_call 44; refine HC.out.mono ?_; rintro e w1 ⟨rfl, hb1⟩)
      · go_roundw
        case rel => exact ⟨k + 1, by omega, by go_num, by have h := HF.out; rwa [if_neg (by decide)] at h, hb.trans (hb1.mono hb.size)⟩
        case measure => simp [intOf]; omega
      · go_ret
        exact ⟨ret_int (by have h := HF.out; simpa using h), hb.trans (hb1.mono hb.size)⟩
    · obtain rfl : k = l.length := by omega
      rw [List.drop_length, firstB] at hfi
      have HF := Lib.hid hfi
      clear hfi
      go_wp2
      go_ret
      exact ⟨ret_int HF.out, hb⟩
end Go.Proofs.YthgdnpcfdgimlabGreat
