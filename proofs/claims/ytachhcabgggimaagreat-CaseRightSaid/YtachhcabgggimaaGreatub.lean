/- ub: EForm2 EHold EChk EChk2 EFld ETell ETell2 ETell4 ETell5 (made by shake.py). -/
import Derived.StillTailTactics
import Derived.Deep.OwnRows
import Derived.WalkLawsBesides
import Derived.Defers
import Derived.Recover
import Derived.Deep.RegionHeld3
import Derived.Test.YtachhcabgggimaaGreatua
namespace Go.Proofs.YtachhcabgggimaaGreat
open Go.RowKit
set_option linter.unusedVariables false
set_option linter.unusedSimpArgs false
set_option maxRecDepth 20000

theorem tk {P : Program} {ops : Array Oper} {Q : Exit → Act → World → Prop} {md : Region.Mode} {S : World → Prop} (i : Nat) {oi : Oper} {v : Value} {fuel : Nat} {listed : Array Bool} {a : Act} {w : World} (h : wpAnyH P md ops Q S fuel (listed.setIfInBounds i true) (a.put oi.dst v) w) (hi : ops[i]? = some oi := by (simp only [gA, gB, gC]; rfl)) (hs : Region.noSelect ops = true := by kernel_rfl) (hf : Region.free md ops listed i = true := by kernel_rfl) (hr : (Region.ready md ops listed).contains i = true := by kernel_rfl) (hQ : ∀ c a w, Q (.panic c) (a.put oi.dst v) w → Q (.panic c) a w := by exact fun _ _ _ h => h) (hw : Region.wanted oi (yielded ops a.tmps) = true := by rfl) (hy : ∀ w, S w → (execOp a.eval oi).run P w = .ok (.value v) w := by (intro w z; (try dsimp only at z); go_simp; try with_reducible rfl)) (hS : S w := by assumption) : wpAnyH P md ops Q S (fuel + 1) listed a w := wpAnyH_take hi hs hf hr hQ (Or.inl ⟨hw, hy⟩) hS h
theorem sk {P : Program} {ops : Array Oper} {Q : Exit → Act → World → Prop} {md : Region.Mode} {S : World → Prop} (i : Nat) {oi : Oper} {fuel : Nat} {listed : Array Bool} {a : Act} {w : World} (h : wpAnyH P md ops Q S fuel (listed.setIfInBounds i true) (a.put oi.dst undef) w) (hi : ops[i]? = some oi := by (simp only [gA, gB, gC]; rfl)) (hs : Region.noSelect ops = true := by kernel_rfl) (hf : Region.free md ops listed i = true := by kernel_rfl) (hr : (Region.ready md ops listed).contains i = true := by kernel_rfl) (hQ : ∀ c a w, Q (.panic c) (a.put oi.dst undef) w → Q (.panic c) a w := by exact fun _ _ _ h => h) (hw : Region.wanted oi (yielded ops a.tmps) = false := by rfl) (hS : S w := by assumption) : wpAnyH P md ops Q S (fuel + 1) listed a w := wpAnyH_take hi hs hf hr hQ (Or.inr ⟨hw, rfl⟩) hS h

theorem kidsOf_same (op : Int) (w : World) : Calls Tryz.prog 274 #[.int .i64 op] w fun e w' => e = .returned (.int .i64 (kidsN op)) ∧ w' = w := (kidsOf_any op w).mono fun e w' h => ⟨h.1, h.2.symm⟩
def CellsX (W : World) (b : Nat) (op : Int) (A : Option Addr) (n c : Nat) (nm : ByteArray) (y : Vl) : Prop :=
  W.cell? ⟨b, 0, none⟩ = some (.int .i64 op) ∧ W.cell? ⟨b, 1, none⟩ = some (.slice A n c) ∧ W.cell? ⟨b, 2, none⟩ = some (.string nm) ∧ W.cell? ⟨b, 3, none⟩ = some (.int .i64 y.k) ∧ W.cell? ⟨b, 4, none⟩ = some (.int .i64 y.i) ∧ W.cell? ⟨b, 5, none⟩ = some (.bool y.b) ∧ W.cell? ⟨b, 6, none⟩ = some (.string y.s) ∧ W.cell? ⟨b, 7, none⟩ = some (.float .f64 y.n)
theorem CellsX.below {W W' : World} {b : Nat} {op : Int} {A : Option Addr} {n c : Nat} {nm : ByteArray} {y : Vl} (h : CellsX W b op A n c nm y) (hb : Below W.heap.size W W') : CellsX W' b op A n c nm y := by
  have hl : b < W.heap.size := World.block_lt_of_cell? W _ h.1
  exact ⟨keepc hb hl h.1, keepc hb hl h.2.1, keepc hb hl h.2.2.1, keepc hb hl h.2.2.2.1, keepc hb hl h.2.2.2.2.1, keepc hb hl h.2.2.2.2.2.1, keepc hb hl h.2.2.2.2.2.2.1, keepc hb hl h.2.2.2.2.2.2.2⟩
theorem CellsX_keep (w W W' : World) (op : Int) (A : Option Addr) (n c : Nat) (nm : ByteArray) (y : Vl) (h : Below w.heap.size w W ∧ CellsX W w.heap.size op A n c nm y) (hb : Below W.heap.size W W') : Below w.heap.size w W' ∧ CellsX W' w.heap.size op A n c nm y :=
  ⟨h.1.trans (hb.mono h.1.size), h.2.below hb⟩
theorem Kid_new (w : World) (op : Int) (A : Option Addr) (n c : Nat) (nm : ByteArray) (y : Vl) : CellsX (w.alloc (bxX op A n c nm y)) w.heap.size op A n c nm y := by
  have h := heap_alloc_new w (bxX op A n c nm y)
  exact ⟨(cell_of_row _ _ 0 _ _ (0, 0) h).trans rfl, (cell_of_row _ _ 1 _ _ (0, 0) h).trans rfl, (cell_of_row _ _ 2 _ _ (0, 0) h).trans rfl, (cell_of_row _ _ 3 _ _ (0, 0) h).trans rfl, (cell_of_row _ _ 4 _ _ (0, 0) h).trans rfl, (cell_of_row _ _ 5 _ _ (0, 0) h).trans rfl, (cell_of_row _ _ 6 _ _ (0, 0) h).trans rfl, (cell_of_row _ _ 7 _ _ (0, 0) h).trans rfl⟩
set_option maxHeartbeats 4000000 in
theorem formed_any (op : Int) (nm : ByteArray) (v : Vl) (n c : Nat) (A : Option Addr) (w : World) : Calls Tryz.prog 261 #[agX op A n c nm v] w (VMk (.bool ((kidsN op == (n : Int)) && ((op == 2 || (nm.toList == [])) && (op == 1 || sameV v vZero)))) w) := by
  have hk := kidsOf_same op
  generalize kidsN op = kn at hk ⊢
  have HK := Lib.hid hk
  clear hk
  have hs : ∀ W, Calls Tryz.prog 234 #[agV v, agV vZero] W (VMk (.bool (sameV v vZero)) W) := fun W => Same_val v vZero W
  generalize sameV v vZero = sv at hs ⊢
  have HS := Lib.hid hs
  clear hs
  have HN := Lib.hid (Kid_new w op A n c nm v)
  have HKP := Lib.hid (fun (W W' : World) (h : Below w.heap.size w W ∧ CellsX W w.heap.size op A n c nm v) (hb : Below W.heap.size W W') => (CellsX_keep w W W' op A n c nm v h hb))
  simp only [CellsX] at HKP
  have hen : (nm.toList == (⟨#[]⟩ : ByteArray).toList) = (nm.toList == []) := by rw [empty_list]
  rcases h1 : (kn == (n : Int)) with _ | _
  · show Calls _ _ _ _ (VMk (.bool false) w)
    go_enter Tryz.func261, Tryz.ntmps261
    go_wp2
    go_quiet ((go_at_call 274; exact Calls.quiet_of_same (HK.out _)))
    go_wp2
    go_ret
    exact ⟨rfl, below_drewN ((Below.refl _ _).alloc (Nat.le_refl _) _) _⟩
  · rcases h2 : (op == 2) with _ | _
    · rcases h3 : (nm.toList == []) with _ | _
      · show Calls _ _ _ _ (VMk (.bool false) w)
        rw [h3] at hen
        go_enter Tryz.func261, Tryz.ntmps261
        go_wp2
        go_quiet ((go_at_call 274; exact Calls.quiet_of_same (HK.out _)))
        go_wp2
        go_ret
        exact ⟨rfl, below_drewN ((Below.refl _ _).alloc (Nat.le_refl _) _) _⟩
      · rw [h3] at hen
        rcases h4 : (op == 1) with _ | _
        · show Calls _ _ _ _ (VMk (.bool sv) w)
          go_enter Tryz.func261, Tryz.ntmps261
          go_wp2
          refine wp_region_held_drew (S := (fun W => Below w.heap.size w W ∧ W.cell? ⟨w.heap.size, 0, none⟩ = some (.int .i64 op) ∧ W.cell? ⟨w.heap.size, 1, none⟩ = some (.slice A n c) ∧ W.cell? ⟨w.heap.size, 2, none⟩ = some (.string nm) ∧ W.cell? ⟨w.heap.size, 3, none⟩ = some (.int .i64 v.k) ∧ W.cell? ⟨w.heap.size, 4, none⟩ = some (.int .i64 v.i) ∧ W.cell? ⟨w.heap.size, 5, none⟩ = some (.bool v.b) ∧ W.cell? ⟨w.heap.size, 6, none⟩ = some (.string v.s) ∧ W.cell? ⟨w.heap.size, 7, none⟩ = some (.float .f64 v.n))) (by kernel_rfl) (⟨((Below.refl _ _).alloc (Nat.le_refl _) _).drew, HN.out.1, HN.out.2.1, HN.out.2.2.1, HN.out.2.2.2.1, HN.out.2.2.2.2.1, HN.out.2.2.2.2.2.1, HN.out.2.2.2.2.2.2.1, HN.out.2.2.2.2.2.2.2⟩) (fun hHeld => ?_)
          refine tk 0 ?_
          (try simp only [Act.put, sA, sB, sC])
          refine tk 1 ?_
          (try simp only [Act.put, sA, sB, sC])
          refine tk 3 ?_
          (try simp only [Act.put, sA, sB, sC])
          refine tk 4 ?_
          (try simp only [Act.put, sA, sB, sC])
          refine tk 5 ?_
          (try simp only [Act.put, sA, sB, sC])
          refine wpAnyH_ready (rs := [2]) (by kernel_rfl) (by simp) ?_
          refine AllReadyH.cons (o := ?o6) ?g6 (fun K hK => ?j6) AllReadyH.nil
          case g6 => (simp only [gA, gB, gC]; rfl)
          go_simp
          refine (HK.out _).mono ?_; rintro e wK ⟨rfl, rfl⟩
          refine hK.out _ _ ?_ (fun hHeld => ?_)
          · (try dsimp only); (first | assumption | exact HKP.out _ _ (by assumption) hbA)
          clear hK K
          (try simp only [Act.put, sA, sB, sC])
          refine tk 6 ?_
          (try simp only [Act.put, sA, sB, sC])
          refine tk 7 ?_
          (try simp only [Act.put, sA, sB, sC])
          refine tk 8 ?_
          (try simp only [Act.put, sA, sB, sC])
          refine tk 9 ?_
          (try simp only [Act.put, sA, sB, sC])
          refine tk 10 ?_
          (try simp only [Act.put, sA, sB, sC])
          refine tk 11 ?_
          (try simp only [Act.put, sA, sB, sC])
          refine tk 12 ?_
          (try simp only [Act.put, sA, sB, sC])
          refine tk 13 ?_
          (try simp only [Act.put, sA, sB, sC])
          refine tk 14 ?_
          (try simp only [Act.put, sA, sB, sC])
          refine tk 15 ?_
          (try simp only [Act.put, sA, sB, sC])
          refine tk 16 ?_
          (try simp only [Act.put, sA, sB, sC])
          refine tk 17 ?_
          (try simp only [Act.put, sA, sB, sC])
          refine tk 18 ?_
          (try simp only [Act.put, sA, sB, sC])
          refine tk 19 ?_
          (try simp only [Act.put, sA, sB, sC])
          refine tk 20 ?_
          (try simp only [Act.put, sA, sB, sC])
          refine tk 21 ?_
          (try simp only [Act.put, sA, sB, sC])
          refine tk 22 ?_
          (try simp only [Act.put, sA, sB, sC])
          refine tk 23 ?_
          (try simp only [Act.put, sA, sB, sC])
          refine tk 24 ?_
          (try simp only [Act.put, sA, sB, sC])
          refine wpAnyH_ready (rs := [25]) (by kernel_rfl) (by simp) ?_
          refine AllReadyH.cons (o := ?o26) ?g26 (fun K hK => ?j26) AllReadyH.nil
          case g26 => (simp only [gA, gB, gC]; rfl)
          go_simp
          refine (HS.out _).mono ?_; rintro e wA ⟨rfl, hbA⟩
          refine hK.out _ _ ?_ (fun hHeld => ?_)
          · (try dsimp only); (first | assumption | exact HKP.out _ _ (by assumption) hbA)
          clear hK K
          (try simp only [Act.put, sA, sB, sC])
          refine tk 26 ?_
          (try simp only [Act.put, sA, sB, sC])
          refine tk 27 ?_
          (try simp only [Act.put, sA, sB, sC])
          refine tk 28 ?_
          (try simp only [Act.put, sA, sB, sC])
          refine wpAnyH_done (by kernel_rfl) ?_ _
          go_wp2
          go_ret
          exact ⟨rfl, (And.left hHeld)⟩
        · show Calls _ _ _ _ (VMk (.bool true) w)
          go_enter Tryz.func261, Tryz.ntmps261
          go_wp2
          go_quiet ((go_at_call 274; exact Calls.quiet_of_same (HK.out _)))
          go_wp2
          go_ret
          exact ⟨rfl, below_drewN ((Below.refl _ _).alloc (Nat.le_refl _) _) _⟩
    · have h4 : (op == 1) = false := by
        have : op = 2 := by simpa using h2
        subst this; rfl
      rw [h4]
      show Calls _ _ _ _ (VMk (.bool sv) w)
      go_enter Tryz.func261, Tryz.ntmps261
      go_wp2
      refine wp_region_held_drew (S := (fun W => Below w.heap.size w W ∧ W.cell? ⟨w.heap.size, 0, none⟩ = some (.int .i64 op) ∧ W.cell? ⟨w.heap.size, 1, none⟩ = some (.slice A n c) ∧ W.cell? ⟨w.heap.size, 2, none⟩ = some (.string nm) ∧ W.cell? ⟨w.heap.size, 3, none⟩ = some (.int .i64 v.k) ∧ W.cell? ⟨w.heap.size, 4, none⟩ = some (.int .i64 v.i) ∧ W.cell? ⟨w.heap.size, 5, none⟩ = some (.bool v.b) ∧ W.cell? ⟨w.heap.size, 6, none⟩ = some (.string v.s) ∧ W.cell? ⟨w.heap.size, 7, none⟩ = some (.float .f64 v.n))) (by kernel_rfl) (⟨((Below.refl _ _).alloc (Nat.le_refl _) _).drew, HN.out.1, HN.out.2.1, HN.out.2.2.1, HN.out.2.2.2.1, HN.out.2.2.2.2.1, HN.out.2.2.2.2.2.1, HN.out.2.2.2.2.2.2.1, HN.out.2.2.2.2.2.2.2⟩) (fun hHeld => ?_)
      refine tk 0 ?_
      (try simp only [Act.put, sA, sB, sC])
      refine tk 1 ?_
      (try simp only [Act.put, sA, sB, sC])
      refine tk 3 ?_
      (try simp only [Act.put, sA, sB, sC])
      refine tk 4 ?_
      (try simp only [Act.put, sA, sB, sC])
      refine tk 5 ?_
      (try simp only [Act.put, sA, sB, sC])
      refine wpAnyH_ready (rs := [2]) (by kernel_rfl) (by simp) ?_
      refine AllReadyH.cons (o := ?o35) ?g35 (fun K hK => ?j35) AllReadyH.nil
      case g35 => (simp only [gA, gB, gC]; rfl)
      go_simp
      refine (HK.out _).mono ?_; rintro e wK ⟨rfl, rfl⟩
      refine hK.out _ _ ?_ (fun hHeld => ?_)
      · (try dsimp only); (first | assumption | exact HKP.out _ _ (by assumption) hbA)
      clear hK K
      (try simp only [Act.put, sA, sB, sC])
      refine tk 6 ?_
      (try simp only [Act.put, sA, sB, sC])
      refine tk 7 ?_
      (try simp only [Act.put, sA, sB, sC])
      refine tk 8 ?_
      (try simp only [Act.put, sA, sB, sC])
      refine tk 9 ?_
      (try simp only [Act.put, sA, sB, sC])
      refine tk 10 ?_
      (try simp only [Act.put, sA, sB, sC])
      refine tk 11 ?_
      (try simp only [Act.put, sA, sB, sC])
      refine sk 12 ?_
      (try simp only [Act.put, sA, sB, sC])
      refine sk 13 ?_
      (try simp only [Act.put, sA, sB, sC])
      refine sk 14 ?_
      (try simp only [Act.put, sA, sB, sC])
      refine tk 15 ?_
      (try simp only [Act.put, sA, sB, sC])
      refine tk 16 ?_
      (try simp only [Act.put, sA, sB, sC])
      refine tk 17 ?_
      (try simp only [Act.put, sA, sB, sC])
      refine tk 18 ?_
      (try simp only [Act.put, sA, sB, sC])
      refine tk 19 ?_
      (try simp only [Act.put, sA, sB, sC])
      refine tk 20 ?_
      (try simp only [Act.put, sA, sB, sC])
      refine tk 21 ?_
      (try simp only [Act.put, sA, sB, sC])
      refine tk 22 ?_
      (try simp only [Act.put, sA, sB, sC])
      refine tk 23 ?_
      (try simp only [Act.put, sA, sB, sC])
      refine tk 24 ?_
      (try simp only [Act.put, sA, sB, sC])
      refine wpAnyH_ready (rs := [25]) (by kernel_rfl) (by simp) ?_
      refine AllReadyH.cons (o := ?o55) ?g55 (fun K hK => ?j55) AllReadyH.nil
      case g55 => (simp only [gA, gB, gC]; rfl)
      go_simp
      refine (HS.out _).mono ?_; rintro e wA ⟨rfl, hbA⟩
      refine hK.out _ _ ?_ (fun hHeld => ?_)
      · (try dsimp only); (first | assumption | exact HKP.out _ _ (by assumption) hbA)
      clear hK K
      (try simp only [Act.put, sA, sB, sC])
      refine tk 26 ?_
      (try simp only [Act.put, sA, sB, sC])
      refine tk 27 ?_
      (try simp only [Act.put, sA, sB, sC])
      refine tk 28 ?_
      (try simp only [Act.put, sA, sB, sC])
      refine wpAnyH_done (by kernel_rfl) ?_ _
      go_wp2
      go_ret
      exact ⟨rfl, (And.left hHeld)⟩

theorem leftL_drop (f : Ex → Int → Int) (ks : List Ex) (k : Nat) (hk : k < ks.length) (n : Int) (hn : 0 ≤ n) : leftL f (ks.drop k) n = leftL f (ks.drop (k + 1)) (f ks[k] n) := by
  rw [List.drop_eq_getElem_cons hk, leftL, if_neg (by omega)]

theorem leftF_le : ∀ (d : Nat) (e : Ex) (n : Int), leftF d e n ≤ n ∨ leftF d e n < 0
  | 0, e, n => .inr (show (-1 : Int) < 0 by decide)
  | d + 1, e, n => by
    by_cases h : 0 ≤ leftF (d + 1) e n
    · have := (leftF_spec _ _ _ h).2; omega
    · omega
def Sz (w : World) (g : Nat) (n : Int) : Prop := w.cell? ⟨g, 0, none⟩ = some (.int .i64 n) ∧ w.frozen? ⟨g, 0, none⟩ = false ∧ g < w.heap.size
theorem Sz.below {w w' : World} {g : Nat} {n : Int} {B : Nat} (h : Sz w g n) (hb : Below B w w') (hl : g < B) : Sz w' g n :=
  ⟨(hb.cell (p := ⟨g, 0, none⟩) hl).trans h.1, (World.frozen?_of_block (hb.block g hl)).trans h.2.1, Nat.lt_of_lt_of_le h.2.2 hb.size⟩

theorem Sz.set {w : World} {g : Nat} {n : Int} (h : Sz w g n) (m : Int) : Sz (w.setCell ⟨g, 0, none⟩ (.int .i64 m)) g m :=
  ⟨World.cell?_setCell_same w _ _ h.1, (World.frozen?_setCell _ _ _ _).trans h.2.1, by simpa [World.setCell] using h.2.2⟩
theorem Sz.only {w w' : World} {g h : Nat} {n : Int} (hs : Sz w g n) (ho : Only h w w') (hne : g ≠ h) : Sz w' g n := by
  have hb := ho.block g hs.2.2 (by intro e; injection e with e; exact hne e)
  exact ⟨(World.cell?_of_block (a := ⟨g, 0, none⟩) hb).trans hs.1, (World.frozen?_of_block (a := ⟨g, 0, none⟩) hb).trans hs.2.1, Nat.lt_of_lt_of_le hs.2.2 ho.size⟩

def GrowP (g : Nat) (n : Int) (r : Bool) (w : World) (e : Ending) (w' : World) : Prop := e = .returned (.bool r) ∧ Sz w' g (n + 1) ∧ Only g w w'
theorem grow_any (g : Nat) (n deep : Int) (w : World) (h : Sz w g n) (h0 : 0 ≤ n) (h1 : n ≤ 24) : Calls Tryz.prog 213 #[.pointer (some ⟨g, 0, none⟩), .int .i64 deep] w (GrowP g n (decide (n + 1 ≤ 24) && decide (deep ≤ 6)) w) := by
  have hw : IntKind.i64.wrap (n + 1) = n + 1 := by rw [IntKind.wrap_i64]; omega
  have hset := h.set (n + 1)
  obtain ⟨hc, hf, hl⟩ := h
  rw [← hw] at hset
  have HS := Lib.hid hset
  clear hset
  by_cases hn : n + 1 ≤ 24
  · have hr : (decide (n + 1 ≤ 24) && decide (deep ≤ 6)) = decide (deep ≤ 6) := by simp [hn]
    rw [hr]
    go_enter Tryz.func213, Tryz.ntmps213
    go_wp2
    go_ret
    exact ⟨rfl, by have := HS.out; rw [hw] at this; exact this, (Only.refl _ _).set _ _⟩
  · have hr : (decide (n + 1 ≤ 24) && decide (deep ≤ 6)) = false := by simp; intro h; omega
    rw [hr]
    go_enter Tryz.func213, Tryz.ntmps213
    go_wp2
    go_ret
    exact ⟨rfl, by have := HS.out; rw [hw] at this; exact this, (Only.refl _ _).set _ _⟩

def HoldP (g : Nat) (m : Int) (w : World) (e : Ending) (w' : World) : Prop := e = .returned (.bool (decide (0 ≤ m))) ∧ (0 ≤ m → Sz w' g (24 - m)) ∧ Only g w w'
set_option maxHeartbeats 2000000 in
theorem holds_any (w0 : World) (g : Nat) (hg : w0.heap.size ≤ g) : ∀ (D : Nat) (d : Nat) (e : Ex) (A : Option Addr) (c : Nat) (n deep : Int) (w : World), d ≤ 6 → deep = 7 - d → 0 ≤ n → n ≤ 24 → ExK w0 D A c e → Below w0.heap.size w0 w → Sz w g (24 - n) →
    Calls Tryz.prog 231 #[.pointer (some ⟨g, 0, none⟩), agX e.op A e.kids.length c e.name e.val, .int .i64 deep] w (HoldP g (leftF d e n) w)
  | 0, _, _, _, _, _, _, _, _, _, _, _, h, _, _ => False.elim h
  | D + 1, d, e, A, c, n, deep, w, hd, hdeep, h0, h1, hx, hb, hs => by
    obtain ⟨h2, h3, h4, h5⟩ := hx
    have ih := holds_any w0 g hg D
    unfold maxLen at h3
    have hlen : e.kids.length ≤ 9223372036854775807 := by omega
    have hgr : ∀ W, Sz W g (24 - n) → Calls Tryz.prog 213 #[.pointer (some ⟨g, 0, none⟩), .int .i64 deep] W (GrowP g (24 - n) (decide (24 - n + 1 ≤ 24) && decide (deep ≤ 6)) W) := fun W h => grow_any g (24 - n) deep W h (by omega) (by omega)
    have hsb : ∀ o, Sz (w.alloc o) g (24 - n) := fun o => hs.below ((Below.refl _ _).alloc (Nat.le_refl _) _) hs.2.2
    have HSB := Lib.hid hsb
    have hgl := hs.2.2
    by_cases hbad : n = 0 ∨ d = 0
    · have hr : (decide (24 - n + 1 ≤ 24) && decide (deep ≤ 6)) = false := by
        rcases hbad with h | h
        · subst h; simp
        · subst h; simp; omega
      have hm : leftF d e n < 0 := by
        rcases hbad with h | h
        · exact leftF_neg d e n (by omega)
        · subst h; show (-1 : Int) < 0; decide
      rw [hr] at hgr
      have HGR := Lib.hid hgr
      have HM := Lib.hid hm
      clear hgr hm hr ih h5 hsb hs hbad hdeep hd h3
      go_enter Tryz.func231, Tryz.ntmps231
      go_wp2_with (go_at_call 213; refine (HGR.out _ (HSB.out _)).mono ?_; rintro e w1 ⟨rfl, hz1, ho1⟩)
      go_ret
      exact ⟨ret_bool (by have := HM.out; simp; omega), fun h => absurd h (by have := HM.out; omega), (((Only.refl _ _).below ((Below.refl _ _).alloc (Nat.le_refl _) _))).trans ho1⟩
    · have hr : (decide (24 - n + 1 ≤ 24) && decide (deep ≤ 6)) = true := by
        simp; omega
      rw [hr] at hgr
      obtain ⟨d', rfl⟩ : ∃ d', d = d' + 1 := ⟨d - 1, by omega⟩
      have hm : leftF (d' + 1) e n = leftL (leftF d') e.kids (n - 1) := rfl
      have hwd : IntKind.i64.wrap (deep + 1) = deep + 1 := by rw [IntKind.wrap_i64]; omega
      rw [hm]
      have HGR := Lib.hid hgr
      have HIH := Lib.hid (fun e A c n W (hx : ExK w0 D A c e) (hn : 0 ≤ n) (hn4 : n ≤ 24) (hB : Below w0.heap.size w0 W) (hS : Sz W g (24 - n)) => ih d' e A c n (deep + 1) W (by omega) (by omega) hn hn4 hx hB hS)
      have H5 := Lib.hid h5
      have HB := Lib.hid hb
      clear hgr hm hr ih h5 hsb hs hb
      obtain ⟨eop, enm, ev, ks⟩ := e
      simp only [Ex.kids, Ex.op, Ex.name, Ex.val] at *
      have HD := Lib.hid (And.intro hd hdeep)
      have hsf := fun (w : World) (a : Addr) (m : Mode) (b : Nat) => run_store Tryz.prog w a (.float .f64 b) m rfl
      clear hd hdeep
      go_enter Tryz.func231, Tryz.ntmps231
      go_wp2_with (go_at_call 213; refine (HGR.out _ (HSB.out _)).mono ?_; rintro e w1 ⟨rfl, hz1, ho1⟩; obtain ⟨hc1, hf1⟩ := onlyc (b := w.heap.size) ho1 (by simp) (by omega))
      go_loopw [16] (fun i wr => ∃ (k : Nat) (m : Int), k ≤ ks.length ∧ i = .int .i64 k ∧ leftL (leftF d') (ks.drop k) m = leftL (leftF d') ks (n - 1) ∧ 0 ≤ m ∧ m ≤ 24 ∧ Sz wr g (24 - m) ∧ Only g w wr) (fun i _ => ks.length - (intOf i).toNat)
      case atStart => exact ⟨0, n - 1, Nat.zero_le _, rfl, rfl, by have := hbad; omega, by omega, by rw [show 24 - (n - 1) = 24 - n + 1 by omega]; exact hz1, ((Only.refl _ _).below ((Below.refl _ _).alloc (Nat.le_refl _) _)).trans ho1⟩
      case round =>
        obtain ⟨k, m, hk, rfl, hm, hm0, hm4, hz, ho⟩ := hrel
        by_cases hlt : k < ks.length
        · obtain ⟨ad, A', c', rfl, hbl, hkid, hsub⟩ := H5.out k hlt
          have hB : Below w0.heap.size w0 wr := HB.out.trans (ho.to_below HB.out.size hg)
          obtain ⟨q0, q1, q2, q3, q4, q5, q6, q7⟩ := hkid.below hB (by rw [block_add]; exact hbl)
          have hcall := fun o => HIH.out ks[k] A' c' m (wr.alloc o) hsub hm0 hm4 (hB.trans ((Below.refl _ _).alloc hB.size _)) (hz.below ((Below.refl _ _).alloc (Nat.le_refl _) _) hz.2.2)
          have hdr := leftL_drop (leftF d') ks k hlt m hm0
          have hle := leftF_le d' ks[k] m
          rw [hdr] at hm
          generalize leftF d' ks[k] m = m' at hcall hm hle
          generalize ks[k].op = ko at q0 hcall
          generalize ks[k].name = kn at q2 hcall
          generalize ks[k].val = ky at q3 q4 q5 q6 q7 hcall
          generalize ks[k].kids.length = kl at q1 hcall
          have HC := Lib.hid hcall
          have HM := Lib.hid hm
          have HO := Lib.hid ho
          clear hcall hm hdr hkid hsub hB hm0 hz hz1 ho1 ho
          by_cases hp : 0 ≤ m'
          · have hpd : decide (0 ≤ m') = true := by simpa using hp
            go_wp2_with (go_at_call 231; refine (HC.out _).mono ?_; rintro e w2 ⟨rfl, hz2, ho2⟩)
            go_roundw
            case rel => exact ⟨k + 1, m', by omega, by go_num, HM.out, hp, by have := hle; omega, hz2 hp, (HO.out.below ((Below.refl _ _).alloc (Nat.le_refl _) _)).trans ho2⟩
            case measure => simp [intOf]; omega
          · have hpd : decide (0 ≤ m') = false := by simpa using hp
            go_wp2_with (go_at_call 231; refine (HC.out _).mono ?_; rintro e w2 ⟨rfl, hz2, ho2⟩)
            go_ret
            exact ⟨ret_bool (by have := HM.out; rw [← this, leftL_neg _ _ _ (by omega)]; simpa using hp), fun h => absurd h (by have := HM.out; rw [← this, leftL_neg _ _ _ (by omega)]; omega), (HO.out.below ((Below.refl _ _).alloc (Nat.le_refl _) _)).trans ho2⟩
        · obtain rfl : k = ks.length := by omega
          have HM := Lib.hid hm
          clear hm
          have hmm : m = leftL (leftF d') ks (n - 1) := by have := HM.out; rw [List.drop_length] at this; exact this
          have HMM := Lib.hid hmm
          clear hmm
          go_wp2
          go_ret
          exact ⟨ret_bool (by rw [← HMM.out]; simpa using hm0), fun _ => by rw [← HMM.out]; exact hz, ho⟩
theorem small_any (D : Nat) (e : Ex) (A : Option Addr) (c : Nat) (w : World) (hx : ExK w D A c e) : Calls Tryz.prog 195 #[agX e.op A e.kids.length c e.name e.val] w (VMk (.bool (smallX e)) w) := by
  have hcall : ∀ o, Calls Tryz.prog 231 #[.pointer (some ⟨w.heap.size + 1, 0, none⟩), agX e.op A e.kids.length c e.name e.val, .int .i64 1] ((w.alloc o).alloc (.cells #[.int .i64 0] 207)) (HoldP (w.heap.size + 1) (leftF 6 e 24) ((w.alloc o).alloc (.cells #[.int .i64 0] 207))) := fun o => by
    have hn := heap_alloc_new (w.alloc o) (.cells #[.int .i64 0] 207)
    have hs : (w.alloc o).heap.size = w.heap.size + 1 := by simp
    rw [hs] at hn
    refine holds_any w (w.heap.size + 1) (by omega) D 6 e A c 24 1 _ (by omega) (by decide) (by decide) (by decide) hx (vbox2 w _ _) ⟨(cell_of_row _ _ 0 _ _ (0, 0) hn).trans rfl, by unfold World.frozen?; simp only [hn]; rfl, by simp⟩
  have HC := Lib.hid hcall
  have hsm : decide (0 ≤ leftF 6 e 24) = smallX e := rfl
  rw [← hsm]
  clear hcall hsm hx
  generalize leftF 6 e 24 = m at *
  obtain ⟨eop, enm, ev, ks⟩ := e
  simp only [Ex.kids, Ex.op, Ex.name, Ex.val] at *
  go_enter Tryz.func195, Tryz.ntmps195
  go_wp2_with (go_at_call 231; refine (HC.out _).mono ?_; rintro e w2 ⟨rfl, hz2, ho2⟩)
  go_ret
  exact ⟨rfl, (vbox2 w _ _).trans (ho2.to_below (by simp; omega) (by omega))⟩

/-! by definition -/
def kindL (op : Int) (l : List Int) : Int × Bool := kindT op (l.getD 0 0) (l.getD 1 0) (l.getD (l.length - 1) 0)
theorem formB_iff (e : Ex) : formB e = true ↔ ¬ (kidsN e.op ≠ e.kids.length ∨ (e.op ≠ 2 ∧ e.name.toList ≠ []) ∨ (e.op ≠ 1 ∧ sameV e.val ⟨0, 0, false, ⟨#[]⟩, 0⟩ = false)) := by
  have hz : vZero = ⟨0, 0, false, ⟨#[]⟩, 0⟩ := rfl
  unfold formB
  rw [hz, Bool.and_eq_true, Bool.and_eq_true, Bool.or_eq_true, Bool.or_eq_true, beq_iff_eq, beq_iff_eq, beq_iff_eq, beq_iff_eq]
  generalize sameV e.val ⟨0, 0, false, ⟨#[]⟩, 0⟩ = b
  by_cases h1 : kidsN e.op = e.kids.length <;> by_cases h2 : e.op = 2 <;> by_cases h3 : e.name.toList = [] <;> by_cases h4 : e.op = 1 <;> cases b <;> simp [h1, h2, h3, h4]
theorem kindX_bad (e : Ex) (l : List Int) (fs : List Fd) (h : formB e = false) : kindX e l fs = (0, 1) := by
  have h2 : ¬ formB e = true := by rw [h]; decide
  rw [formB_iff, Classical.not_not] at h2
  unfold kindX
  exact if_pos h2
theorem kindX_const (e : Ex) (l : List Int) (fs : List Fd) (h : formB e = true) (h1 : e.op = 1) : kindX e l fs = constX e.val := by
  rw [formB_iff] at h
  unfold kindX
  rw [if_neg h, if_pos h1]
  rfl
theorem kindX_field (e : Ex) (l : List Int) (fs : List Fd) (h : formB e = true) (h1 : e.op = 2) : kindX e l fs = fieldX e.name fs := by
  rw [formB_iff] at h
  unfold kindX
  rw [if_neg h, if_neg (by omega), if_pos h1]
  rfl
theorem formB_kids (e : Ex) (h : formB e = true) : kidsN e.op = e.kids.length := by
  rw [formB_iff] at h
  exact Classical.byContradiction fun h2 => h (.inl h2)
theorem kindX_op (e : Ex) (l : List Int) (fs : List Fd) (h : formB e = true) (h1 : e.op ≠ 1) (h2 : e.op ≠ 2) (hl : l.length = e.kids.length) : kindX e l fs = if (kindL e.op l).2 = true then ((kindL e.op l).1, 0) else (0, 40) := by
  have hk := formB_kids e h
  rw [formB_iff] at h
  unfold kindX
  rw [if_neg h, if_neg h1, if_neg h2]
  clear h
  rw [← hl] at hk
  generalize e.op = op at *
  have one : kidsN op = 1 → ∃ a, l = [a] := fun h => by
    match l, hk with
    | [a], _ => exact ⟨a, rfl⟩
    | [], hk => rw [h] at hk; simp at hk
    | a :: b :: l, hk => rw [h] at hk; simp at hk; omega
  have two : kidsN op = 2 → ∃ a b, l = [a, b] := fun h => by
    match l, hk with
    | [a, b], _ => exact ⟨a, b, rfl⟩
    | [], hk => rw [h] at hk; simp at hk
    | [a], hk => rw [h] at hk; simp at hk
    | a :: b :: c :: l, hk => rw [h] at hk; simp at hk; omega
  have three : kidsN op = 3 → ∃ a b c, l = [a, b, c] := fun h => by
    match l, hk with
    | [a, b, c], _ => exact ⟨a, b, c, rfl⟩
    | [], hk => rw [h] at hk; simp at hk
    | [a], hk => rw [h] at hk; simp at hk
    | [a, b], hk => rw [h] at hk; simp at hk
    | a :: b :: c :: d :: l, hk => rw [h] at hk; simp at hk; omega
  by_cases h3 : op = 3
  · subst h3
    obtain ⟨a, rfl⟩ := one rfl
    simp [kindL, kindT]
  by_cases h12 : op = 12
  · subst h12
    obtain ⟨a, rfl⟩ := one rfl
    simp [kindL, kindT]
  by_cases h16 : op = 16
  · subst h16
    obtain ⟨a, rfl⟩ := one rfl
    simp [kindL, kindT]
  by_cases h4 : op = 4
  · subst h4
    obtain ⟨a, b, rfl⟩ := two rfl
    simp [kindL, kindT]
  by_cases h5 : op = 5
  · subst h5
    obtain ⟨a, b, rfl⟩ := two rfl
    simp [kindL, kindT]
  by_cases h6 : op = 6
  · subst h6
    obtain ⟨a, b, rfl⟩ := two rfl
    simp [kindL, kindT]
  by_cases h7 : op = 7
  · subst h7
    obtain ⟨a, b, rfl⟩ := two rfl
    simp [kindL, kindT]
  by_cases h14 : op = 14
  · subst h14
    obtain ⟨a, b, rfl⟩ := two rfl
    simp [kindL, kindT]
  by_cases h15 : op = 15
  · subst h15
    obtain ⟨a, b, rfl⟩ := two rfl
    simp [kindL, kindT]
  by_cases h8 : op = 8
  · subst h8
    obtain ⟨a, b, rfl⟩ := two rfl
    simp [kindL, kindT]
  by_cases h9 : op = 9
  · subst h9
    obtain ⟨a, b, rfl⟩ := two rfl
    simp [kindL, kindT, or_assoc, or_comm, or_left_comm]
  by_cases h10 : op = 10
  · subst h10
    obtain ⟨a, b, rfl⟩ := two rfl
    simp [kindL, kindT]
  by_cases h11 : op = 11
  · subst h11
    obtain ⟨a, b, rfl⟩ := two rfl
    simp [kindL, kindT]
  by_cases h13 : op = 13
  · subst h13
    obtain ⟨a, b, c, rfl⟩ := three rfl
    simp only [kindL, kindT]
    simp
    split <;> simp_all
  exfalso
  unfold kidsN at hk
  simp [*] at hk
theorem chkL_good (f : Ex → Int × Int) : ∀ ks : List Ex, (∀ (j : Nat) (hj : j < ks.length), (f ks[j]).2 = 0) → chkL f ks = (ks.map fun k => (f k).1, 0)
  | [], _ => rfl
  | k :: ks, h => by
    have h0 := h 0 (by simp)
    rw [List.getElem_cons_zero] at h0
    rw [chkL, if_neg (by rw [h0]; decide), chkL_good f ks (fun j hj => h (j + 1) (by simpa using hj)), if_neg (fun h => h rfl)]
    rfl
theorem chkL_bad (f : Ex → Int × Int) : ∀ (ks : List Ex) (k : Nat) (hk : k < ks.length), (∀ (j : Nat) (hj : j < k), (f (ks[j]'(by omega))).2 = 0) → (f ks[k]).2 ≠ 0 → (chkL f ks).2 = (f ks[k]).2
  | [], k, hk, _, _ => absurd hk (Nat.not_lt_zero _)
  | x :: ks, 0, hk, h, hn => by rw [List.getElem_cons_zero] at hn ⊢; rw [chkL, if_pos hn]
  | x :: ks, k + 1, hk, h, hn => by
    have h0 := h 0 (by omega)
    rw [List.getElem_cons_zero] at h0
    rw [List.getElem_cons_succ] at hn ⊢
    have hr := chkL_bad f ks k (by simpa using hk) (fun j hj => by have := h (j + 1) (by omega); rwa [List.getElem_cons_succ] at this) hn
    rw [chkL, if_neg (by rw [h0]; decide), if_pos (by rw [hr]; exact hn), hr]

theorem eintinfo : (Tryz.prog.info? 3).map (fun i => (i.zero, i.size, i.bytes)) = some (some (.int .i64 0), 1, 8) := by kernel_rfl
theorem deepX_kid {d : Nat} {e : Ex} (hd : deepX d e) (hs : sizeX d e ≤ 24) : ∃ d', d = d' + 1 ∧ e.kids.length ≤ 23 ∧ ∀ (j : Nat) (hj : j < e.kids.length), deepX d' e.kids[j] ∧ sizeX d' e.kids[j] ≤ 24 := by
  cases d with
  | zero => exact False.elim hd
  | succ d =>
    refine ⟨d, rfl, ?_, fun j hj => ⟨hd _ (List.getElem_mem hj), ?_⟩⟩
    · have h1 : ∀ ks : List Ex, (∀ k ∈ ks, deepX d k) → ks.length ≤ (ks.map (sizeX d)).sum := by
        intro ks
        induction ks with
        | nil => intro _; exact Nat.le_refl _
        | cons k ks ih =>
          intro h
          have h0 := h k (List.mem_cons_self ..)
          have h2 := ih (fun x hx => h x (List.mem_cons_of_mem _ hx))
          rw [List.map_cons, List.sum_cons, List.length_cons]
          cases d with
          | zero => exact False.elim h0
          | succ d => have : 1 ≤ sizeX (d + 1) k := by unfold sizeX; omega
                      omega
      have := h1 e.kids hd
      unfold sizeX at hs
      omega
    · have h2 : ∀ (ks : List Ex) (j : Nat) (hj : j < ks.length), sizeX d ks[j] ≤ (ks.map (sizeX d)).sum := by
        intro ks
        induction ks with
        | nil => intro j hj; exact absurd hj (Nat.not_lt_zero _)
        | cons k ks ih =>
          intro j hj
          rw [List.map_cons, List.sum_cons]
          cases j with
          | zero => rw [List.getElem_cons_zero]; omega
          | succ j => have := ih j (by simpa using hj); rw [List.getElem_cons_succ]; omega
      have := h2 e.kids j hj
      unfold sizeX at hs
      omega
theorem kns_of (w : World) (g n : Nat) (t : TypeId) (kk : Nat → Int) (l : List Int) (hr : w.rowIs g t n (fun j => .int .i64 (kk j))) (hl : l.length = n) (h0 : 0 < n) (h24 : n ≤ 24) (hk : ∀ (j : Nat) (hj : j < l.length), kk j = l[j]) : Kns w ⟨g, 0, none⟩ n (l.getD 0 0) (l.getD 1 0) (l.getD (l.length - 1) 0) := by
  have hat : ∀ j, j < n → w.cell? ⟨g, j, none⟩ = some (.int .i64 (l.getD j 0)) := fun j hj => by
    rw [hr.cell hj, hk j (by omega), List.getD_eq_getElem?_getD, List.getElem?_eq_getElem (by omega)]; rfl
  refine ⟨h0, h24, hat 0 h0, ?_, fun h3 => ?_⟩
  · rw [Addr.add_lit, Nat.zero_add, hl]; exact hat _ (by omega)
  · exact hat 1 (by omega)
theorem CellsX.set_off {W : World} {b g : Nat} {op : Int} {A : Option Addr} {n c : Nat} {nm : ByteArray} {y : Vl} (h : CellsX W b op A n c nm y) (hne : b ≠ g) (j : Nat) (u : Value) : CellsX (W.setCell ⟨g, j, none⟩ u) b op A n c nm y := by
  have hk : ∀ o, (W.setCell ⟨g, j, none⟩ u).cell? ⟨b, o, none⟩ = W.cell? ⟨b, o, none⟩ := fun o => World.cell?_setCell_other W (a := ⟨g, j, none⟩) (b := ⟨b, o, none⟩) (v := u) (by intro e; injection e with e _ _; exact hne e.symm)
  unfold CellsX
  simp only [hk]
  exact h
set_option maxHeartbeats 4000000 in
theorem check_any (FA : Option Addr) (FC : Nat) (fs : List Fd) : ∀ (D d : Nat) (e : Ex) (A : Option Addr) (c : Nat) (w : World), ExK w D A c e → FdK w FA FC fs → deepX d e → sizeX d e ≤ 24 →
    Calls Tryz.prog 247 #[agX e.op A e.kids.length c e.name e.val, .slice FA fs.length FC] w (VMk (pairII (chkX d e fs)) w)
  | 0, _, _, _, _, _, h, _, _, _ => False.elim h
  | D + 1, d, e, A, c, w, hx, hf, hdeep, hsize => by
    obtain ⟨d, rfl, h23, hkids⟩ := deepX_kid hdeep hsize
    have ih := check_any FA FC fs D
    obtain ⟨h2, h3, h4, h5⟩ := hx
    have hsp0 := kindX_bad e (e.kids.map fun k => (chkX d k fs).1) fs
    have hsp1 := kindX_const e (e.kids.map fun k => (chkX d k fs).1) fs
    have hsp2 := kindX_field e (e.kids.map fun k => (chkX d k fs).1) fs
    have hsp3 := fun h h1 h2 => kindX_op e (e.kids.map fun k => (chkX d k fs).1) fs h h1 h2 (by simp)
    have hchk : chkX (d + 1) e fs = if (chkL (fun k => chkX d k fs) e.kids).2 ≠ 0 then (0, (chkL (fun k => chkX d k fs) e.kids).2) else kindX e (chkL (fun k => chkX d k fs) e.kids).1 fs := rfl
    have hgood := chkL_good (fun k => chkX d k fs) e.kids
    have hbad := chkL_bad (fun k => chkX d k fs) e.kids
    have hcall : ∀ (j : Nat) (hj : j < e.kids.length) A' c' W, ExK w D A' c' e.kids[j] → Below w.heap.size w W → Calls Tryz.prog 247 #[agX e.kids[j].op A' e.kids[j].kids.length c' e.kids[j].name e.kids[j].val, .slice FA fs.length FC] W (VMk (pairII (chkX d e.kids[j] fs)) W) :=
      fun j hj A' c' W hx hB => ih d e.kids[j] A' c' W (hx.below hB (Nat.le_refl _)) (hf.below hB (Nat.le_refl _)) (hkids j hj).1 (hkids j hj).2
    have hform := formed_any e.op e.name e.val e.kids.length c A
    have hfb : ((kidsN e.op == (e.kids.length : Int)) && ((e.op == 2 || (e.name.toList == [])) && (e.op == 1 || sameV e.val vZero))) = formB e := rfl
    rw [hfb] at hform
    clear hfb
    have hfk := formB_kids e
    have hfield : ∀ W, Below w.heap.size w W → Calls Tryz.prog 263 #[.string e.name, .slice FA fs.length FC] W (VMk (pairII (fieldX e.name fs)) W) := fun W hB => fieldKind_any e.name FA FC fs W (hf.below hB (Nat.le_refl _))
    have hconst := constKind_any e.val
    have hkind := fun g n c a m z W h hn h1 h2 => kindOf_any e.op g n c a m z W h hn h1 h2
    have hkt : ∀ l : List Int, kindT e.op (l.getD 0 0) (l.getD 1 0) (l.getD (l.length - 1) 0) = kindL e.op l := fun l => rfl
    generalize chkX (d + 1) e fs = RES at hchk ⊢
    generalize formB e = fb at hform hsp0 hsp1 hsp2 hsp3 hfk
    generalize constX e.val = cx at hconst hsp1
    generalize fieldX e.name fs = fx at hfield hsp2
    have hml : ∀ (j : Nat) (hj : j < (e.kids.map fun k => (chkX d k fs).1).length), (e.kids.map fun k => (chkX d k fs).1)[j] = (chkX d (e.kids[j]'(by simpa using hj)) fs).1 := fun j hj => by simp
    have hmn : (e.kids.map fun k => (chkX d k fs).1).length = e.kids.length := by simp
    clear ih hkids hsize hdeep
    generalize e.kids = ks at *
    generalize e.op = eop at *
    generalize e.name = enm at *
    generalize e.val = ev at *
    have hmk := fun (W : World) => run_make_row' (P := Tryz.prog) 43 3 (.int .i64 0) 8 Tryz.underlying43 eintinfo rfl .i64 .i64 ks.length (by omega) (by omega) W
    have hsf := fun (w : World) (a : Addr) (m : Mode) (b : Nat) => run_store Tryz.prog w a (.float .f64 b) m rfl
    have HCALL := Lib.hid hcall
    have HFORM := Lib.hid hform
    have HFIELD := Lib.hid hfield
    have HCONST := Lib.hid hconst
    have HKIND := Lib.hid hkind
    have HPURE := Lib.hid (And.intro hchk (And.intro hgood hbad))
    have HSP := Lib.hid (And.intro hsp0 (And.intro hsp1 (And.intro hsp2 (And.intro hsp3 hfk))))
    have HML := Lib.hid (And.intro hml (And.intro hmn hkt))
    have H5 := Lib.hid h5
    have H23 := Lib.hid h23
    clear hcall hform hfield hconst hkind hchk hgood hbad hsp0 hsp1 hsp2 hsp3 hfk hml hmn hkt h5 h23 hf h2 h3 h4
    go_enter Tryz.func247, Tryz.ntmps247
    go_wp2
    go_loopw [20] (fun i wr => ∃ (k : Nat) (kk : Nat → Int), k ≤ ks.length ∧ i = .int .i64 k ∧ (∀ (j : Nat) (hj : j < ks.length), j < k → (chkX d ks[j] fs).2 = 0 ∧ kk j = (chkX d ks[j] fs).1) ∧ wr.rowIs (w.heap.size + 1) 3 ks.length (fun j => .int .i64 (kk j)) ∧ Below w.heap.size w wr ∧ CellsX wr w.heap.size eop A ks.length c enm ev) (fun i _ => ks.length - (intOf i).toNat)
    case atStart =>
      refine ⟨0, fun _ => 0, Nat.zero_le _, rfl, fun j hj h => absurd h (Nat.not_lt_zero _), ?_, vbox2 w _ _, (Kid_new w eop A ks.length c enm ev).below ((Below.refl _ _).alloc (Nat.le_refl _) _)⟩
      have := World.rowIs_made (w.alloc (bxX eop A ks.length c enm ev)) (.int .i64 0) ks.length 3
      have hs : (w.alloc (bxX eop A ks.length c enm ev)).heap.size = w.heap.size + 1 := by simp
      rw [hs] at this
      exact this
    case round =>
      obtain ⟨k, kk, hk, rfl, hdone, hrow, hb, hbox⟩ := hrel
      have h23 := H23.out
      by_cases hlt : k < ks.length
      · obtain ⟨ad, A', c', rfl, hbl, hkid, hsub⟩ := H5.out k hlt
        obtain ⟨q0, q1, q2, q3, q4, q5, q6, q7⟩ := hkid.below hb (by rw [block_add]; exact hbl)
        have hcall := fun o => HCALL.out k hlt A' c' (wr.alloc o) hsub (hb.alloc hb.size o)
        have hall : (chkX d ks[k] fs).2 = 0 → ∀ kk' : Nat → Int, (∀ j, j < k → kk' j = kk j) → kk' k = (chkX d ks[k] fs).1 → ∀ (j : Nat) (hj : j < ks.length), j < k + 1 → (chkX d ks[j] fs).2 = 0 ∧ kk' j = (chkX d ks[j] fs).1 := fun h0 kk' h1 h2 j hj hjk => by
          by_cases hjk2 : j < k
          · rw [h1 j hjk2]; exact hdone j hj hjk2
          · obtain rfl : j = k := by omega
            exact ⟨h0, h2⟩
        have hres : (chkX d ks[k] fs).2 ≠ 0 → RES = (0, (chkX d ks[k] fs).2) := fun hne => by
          have := HPURE.out.2.2 k hlt (fun j hj => (hdone j (by omega) hj).1) hne
          rw [HPURE.out.1, if_pos (by rw [this]; exact hne), this]
        have HALL := Lib.hid hall
        have HRES := Lib.hid hres
        clear hall hres hdone
        generalize chkX d ks[k] fs = r at hcall HALL HRES
        obtain ⟨r1, r2⟩ := r
        generalize ks[k].op = ko at q0 hcall
        generalize ks[k].name = kn at q2 hcall
        generalize ks[k].val = ky at q3 q4 q5 q6 q7 hcall
        generalize ks[k].kids.length = kl at q1 hcall
        have HC := Lib.hid hcall
        have HROW := Lib.hid hrow
        have HBOX := Lib.hid hbox
        clear hcall hkid hsub hrow hbox
        have hgl := HROW.out.lt
        rcases hz : (r2 != 0) with _ | _
        · have hz0 : r2 = 0 := by simpa using hz
          subst hz0
          go_wp2_with (go_at_call 247; refine (HC.out _).mono ?_; rintro e w2 ⟨rfl, hb2⟩; have hrow2 := (HROW.out.alloc _).of_block (hb2.block _ (by simp; omega)); have hc2 := hrow2.cell hlt; have hf2 := hrow2.frozen k; have HROW2 := Lib.hid hrow2; clear hrow2)
          go_roundw
          case rel =>
            refine ⟨k + 1, fun j => if j = k then r1 else kk j, by omega, by go_num, HALL.out (by first | rfl | trivial) _ (fun j hj => if_neg (by omega)) (if_pos rfl), ?_, ?_, ?_⟩
            · exact (HROW2.out.set k (.int .i64 r1)).congr (fun j hj => by by_cases h : j = k <;> simp [h])
            · exact (hb.trans ((Below.refl _ _).alloc hb.size _)).trans (hb2.mono (by have := hb.size; simp; omega)) |>.setCell (by simp) _
            · exact CellsX.set_off (HBOX.out.below (((Below.refl _ _).alloc (Nat.le_refl _) _).trans (hb2.mono (by simp)))) (by omega) _ _
          case measure => simp [intOf]; omega
        · have hz0 : r2 ≠ 0 := by simpa using hz
          go_wp2_with (go_at_call 247; refine (HC.out _).mono ?_; rintro e w2 ⟨rfl, hb2⟩)
          have hfin := HRES.out hz0
          refine bodyPost_ret (v := pairII (0, r2)) (by simp [results, Tryz.results247, go_sem]) rfl ⟨by rw [hfin], ?_⟩
          exact (hb.trans ((Below.refl _ _).alloc hb.size _)).trans (hb2.mono (by have := hb.size; simp; omega))
      · obtain rfl : k = ks.length := by omega
        have hgd := HPURE.out.2.1 (fun j hj => (hdone j hj hj).1)
        have hR : RES = kindX e (List.map (fun k => (chkX d k fs).1) ks) fs := by
          rw [HPURE.out.1, hgd, if_neg (fun h => h rfl)]
        have hml := HML.out
        have hkk : ∀ (j : Nat) (hj : j < (List.map (fun k => (chkX d k fs).1) ks).length), kk j = (List.map (fun k => (chkX d k fs).1) ks)[j] := fun j hj => by
          have hj' : j < ks.length := by simpa using hj
          rw [hml.1 j hj]; exact (hdone j hj' hj').2
        have hkns := fun (W : World) (hr : W.rowIs (w.heap.size + 1) 3 ks.length (fun j => .int .i64 (kk j))) (h0 : 0 < ks.length) => kns_of W (w.heap.size + 1) ks.length _ kk _ hr hml.2.1 h0 (by omega) hkk
        have hkd := fun (W : World) (hr : W.rowIs (w.heap.size + 1) 3 ks.length (fun j => .int .i64 (kk j))) (h0 : 0 < ks.length) hn h1 h2 => HKIND.out ⟨w.heap.size + 1, 0, none⟩ ks.length ks.length _ _ _ W (hkns W hr h0) hn h1 h2
        simp only [hml.2.2] at hkd
        have hsp := HSP.out
        rw [← hR] at hsp
        clear hkns hkk hml hR hgd hdone
        generalize kindL eop (List.map (fun k => (chkX d k fs).1) ks) = kt at hkd hsp
        have HKD := Lib.hid hkd
        have HS := Lib.hid hsp
        have HROW := Lib.hid hrow
        have HB := Lib.hid hbox
        obtain ⟨b0, b1, b2, b3, b4, b5, b6, b7⟩ := hbox
        have hgl := hrow.lt
        clear hkd hsp hrow
        have hkeep : ∀ W, Below wr.heap.size wr W → CellsX W w.heap.size eop A ks.length c enm ev ∧ W.rowIs (w.heap.size + 1) 3 ks.length (fun j => .int .i64 (kk j)) := fun W h => ⟨HB.out.below h, HROW.out.of_block (h.block _ hgl)⟩
        have HKEEP := Lib.hid hkeep
        clear hkeep
        rcases fb with _ | _
        · have hfin := HS.out.1 rfl
          have HFIN := Lib.hid hfin
          clear hfin
          go_wp2_with (go_at_call 261; refine (HFORM.out _).mono ?_; rintro e w2 ⟨rfl, hb2⟩)
          exact bodyPost_ret (v := pairII (0, 1)) (by simp [results, Tryz.results247, go_sem]) rfl ⟨by rw [HFIN.out], hb.trans (hb2.mono hb.size)⟩
        by_cases o1 : eop = 1
        · have hfin := HS.out.2.1 rfl o1
          have HFIN := Lib.hid hfin
          clear hfin
          subst o1
          go_wp2_with (first
            | (go_at_call 261; refine (HFORM.out _).mono ?_; rintro e w2 ⟨rfl, hb2⟩; obtain ⟨d0, d1, d2, d3, d4, d5, d6, d7⟩ := (HKEEP.out _ hb2).1)
            | (go_at_call 262; refine (HCONST.out _).mono ?_; rintro e w3 ⟨rfl, hb3⟩))
          exact bodyPost_ret (v := pairII cx) (by simp [results, Tryz.results247, go_sem]) rfl ⟨by rw [HFIN.out], (hb.trans (hb2.mono hb.size)).trans (hb3.mono (by have := hb.size; have := hb2.size; omega))⟩
        by_cases o2 : eop = 2
        · have hfin := HS.out.2.2.1 rfl o2
          have HFIN := Lib.hid hfin
          clear hfin
          subst o2
          go_wp2_with (first
            | (go_at_call 261; refine (HFORM.out _).mono ?_; rintro e w2 ⟨rfl, hb2⟩; obtain ⟨d0, d1, d2, d3, d4, d5, d6, d7⟩ := (HKEEP.out _ hb2).1)
            | (go_at_call 263; refine (HFIELD.out _ (hb.trans (hb2.mono hb.size))).mono ?_; rintro e w3 ⟨rfl, hb3⟩))
          exact bodyPost_ret (v := pairII fx) (by simp [results, Tryz.results247, go_sem]) rfl ⟨by rw [HFIN.out], (hb.trans (hb2.mono hb.size)).trans (hb3.mono (by have := hb.size; have := hb2.size; omega))⟩
        have hfin := HS.out.2.2.2.1 rfl o1 o2
        have hkn := HS.out.2.2.2.2 rfl
        have hpos : 0 < ks.length := by
          rcases Nat.eq_zero_or_pos ks.length with h0 | h0
          · exfalso
            rw [h0] at hkn
            unfold kidsN at hkn
            rw [if_neg (by omega)] at hkn
            split at hkn
            · simp at hkn
            split at hkn
            · simp at hkn
            split at hkn <;> simp at hkn
          · exact h0
        have HFIN := Lib.hid hfin
        have hkd := fun W hr => HKD.out W hr hpos hkn o1 o2
        have HKD2 := Lib.hid hkd
        have h1b : (eop == 1) = false := by simpa using o1
        have h2b : (eop == 2) = false := by simpa using o2
        clear hfin hkn hkd HKD
        obtain ⟨kt1, kt2⟩ := kt
        rcases kt2 with _ | _
        · go_wp2_with (first
            | (go_at_call 261; refine (HFORM.out _).mono ?_; rintro e w2 ⟨rfl, hb2⟩; obtain ⟨d0, d1, d2, d3, d4, d5, d6, d7⟩ := (HKEEP.out _ hb2).1)
            | (go_at_call 264; refine (HKD2.out _ (HKEEP.out _ hb2).2).mono ?_; rintro e w3 ⟨rfl, hb3⟩))
          exact bodyPost_ret (v := pairII (0, 40)) (by simp [results, Tryz.results247, go_sem]) rfl ⟨by rw [HFIN.out]; rfl, (hb.trans (hb2.mono hb.size)).trans (hb3.mono (by have := hb.size; have := hb2.size; omega))⟩
        · go_wp2_with (first
            | (go_at_call 261; refine (HFORM.out _).mono ?_; rintro e w2 ⟨rfl, hb2⟩; obtain ⟨d0, d1, d2, d3, d4, d5, d6, d7⟩ := (HKEEP.out _ hb2).1)
            | (go_at_call 264; refine (HKD2.out _ (HKEEP.out _ hb2).2).mono ?_; rintro e w3 ⟨rfl, hb3⟩))
          exact bodyPost_ret (v := pairII (kt1, 0)) (by simp [results, Tryz.results247, go_sem]) rfl ⟨by rw [HFIN.out]; rfl, (hb.trans (hb2.mono hb.size)).trans (hb3.mono (by have := hb.size; have := hb2.size; omega))⟩

theorem eCheck_any (FA : Option Addr) (FC : Nat) (fs : List Fd) (D : Nat) (e : Ex) (A : Option Addr) (c : Nat) (w : World) (hx : ExK w D A c e) (hf : FdK w FA FC fs) :
    Calls Tryz.prog 220 #[agX e.op A e.kids.length c e.name e.val, .slice FA fs.length FC] w (VMk (pairII (checkX e fs)) w) := by
  have hs := fun W (hb : Below w.heap.size w W) => small_any D e A c W (hx.below hb (Nat.le_refl _))
  have hc : smallX e = true → ∀ W, Below w.heap.size w W → Calls Tryz.prog 247 #[agX e.op A e.kids.length c e.name e.val, .slice FA fs.length FC] W (VMk (pairII (chkX 6 e fs)) W) := fun h W hb => by
    obtain ⟨h1, h2⟩ := (smallX_iff e).1 h
    exact check_any FA FC fs D 6 e A c W (hx.below hb (Nat.le_refl _)) (hf.below hb (Nat.le_refl _)) h1 h2
  have hr : checkX e fs = if smallX e then chkX 6 e fs else (0, 51) := rfl
  rw [hr]
  generalize chkX 6 e fs = r at hc ⊢
  generalize smallX e = b at hs hc ⊢
  generalize e.kids.length = n at *
  generalize e.op = eop at *
  generalize e.name = enm at *
  generalize e.val = ev at *
  have hb0 : ∀ o, Below w.heap.size w (w.alloc o) := fun o => (Below.refl _ _).alloc (Nat.le_refl _) _
  have HS := Lib.hid hs
  clear hs hr hx hf
  rcases b with _ | _
  · clear hc
    rw [if_neg (by decide)]
    go_enter Tryz.func220, Tryz.ntmps220
    go_wp2_with (go_at_call 195; refine (HS.out _ (hb0 _)).mono ?_; rintro e w1 ⟨rfl, hb1⟩)
    exact bodyPost_ret (v := pairII (0, 51)) (by simp [results, Tryz.results220, go_sem]) rfl ⟨rfl, (hb0 _).trans (hb1.mono (by simp))⟩
  · have hc := hc rfl
    have HC := Lib.hid hc
    clear hc
    rw [if_pos rfl]
    go_enter Tryz.func220, Tryz.ntmps220
    go_wp2_with (first
      | (go_at_call 195; refine (HS.out _ (hb0 _)).mono ?_; rintro e w1 ⟨rfl, hb1⟩; obtain ⟨d0, d1, d2, d3, d4, d5, d6, d7⟩ := (Kid_new w eop A n c enm ev).below hb1)
      | (go_at_call 247; refine (HC.out _ ((hb0 _).trans (hb1.mono (by simp)))).mono ?_; rintro e w2 ⟨rfl, hb2⟩))
    exact bodyPost_ret (v := pairII r) (by simp [results, Tryz.results220, go_sem]) rfl ⟨rfl, ((hb0 _).trans (hb1.mono (by simp))).trans (hb2.mono (by have := hb1.size; simp at this; omega))⟩

def conX (v : Vl) : Ex := .mk 1 ⟨#[]⟩ v []
def opX (o : Int) (ks : List Ex) : Ex := .mk o ⟨#[]⟩ vZero ks
def nought : Ex := opX 8 [opX 7 [conX (vInt 1), conX (vInt 0)], conX (vInt 1)]
theorem kind_con (v : Vl) (fs : List Fd) (hg : goodV v = true) : kindX (conX v) [] fs = (v.k, 0) := by
  unfold kindX
  rw [if_neg (by
    intro h
    rcases h with h | h | h
    · exact h rfl
    · have e : (conX v).name.toList = [] := empty_list
      exact h.2 e
    · exact h.1 rfl)]
  rw [if_pos (show (conX v).op = 1 from rfl), if_pos (show goodV (conX v).val = true from hg)]
  rfl
theorem chk_con (d : Nat) (v : Vl) (fs : List Fd) (hg : goodV v = true) : chkX (d + 1) (conX v) fs = (v.k, 0) := kind_con v fs hg
theorem ev_con (d : Nat) (v : Vl) (fs : List Fd) (vs : List Vl) : evX (d + 1) (conX v) fs vs = (v, 0) := by
  rw [evX, if_pos (show (conX v).op = 1 from rfl)]
  rfl

abbrev PV (err : Int) : List PanicEntry := [{ v := .iface 26 (.int .i64 err), recovered := false }]
def TellP (r : Vl × Int) (w : World) (e : Ending) (w' : World) : Prop := e = (if r.2 = 0 then .returned (agV r.1) else .panicked (PV r.2)) ∧ Below w.heap.size w w'

theorem sure_ok (v : Vl) (w : World) : Calls Tryz.prog 265 #[agV v, .int .i64 0] w (VMk (agV v) w) := by
  have hsf := fun (w : World) (a : Addr) (m : Mode) (b : Nat) => run_store Tryz.prog w a (.float .f64 b) m rfl
  go_enter Tryz.func265, Tryz.ntmps265
  go_wp2
  exact bodyPost_ret (v := agV v) (by simp [results, Tryz.results265, go_sem]) rfl ⟨rfl, vbox2 w _ _⟩
theorem sure_bad (v : Vl) (err : Int) (h : err ≠ 0) (w : World) : Calls Tryz.prog 265 #[agV v, .int .i64 err] w fun e w' => e = .panicked (PV err) ∧ Below w.heap.size w w' := by
  have h2 : (err != 0) = true := by simpa using h
  go_enter Tryz.func265, Tryz.ntmps265
  go_wp2
  exact ⟨rfl, rfl, vbox2 w _ _⟩
theorem sureB_ok (b : Bool) (w : World) : Calls Tryz.prog 284 #[.bool b, .int .i64 0] w (VGv (.bool b) w) := by
  go_enter Tryz.func284, Tryz.ntmps284
  go_wp2
  go_ret
  exact ⟨rfl, rfl⟩
theorem etruth_any (b : Bool) (w : World) : Calls Tryz.prog 270 #[.bool b] w (VMk (agV (vTruth b)) w) := by
  have hsf := fun (w : World) (a : Addr) (m : Mode) (b : Nat) => run_store Tryz.prog w a (.float .f64 b) m rfl
  go_enter Tryz.func270, Tryz.ntmps270
  go_wp2
  exact bodyPost_ret (v := agV (vTruth b)) (by simp [results, Tryz.results270, go_sem]) rfl ⟨rfl, (Below.refl _ _).alloc (Nat.le_refl _) _⟩

def pairX (op : Int) (a b : Vl) : Vl × Int := if op = 8 then (vTruth (eqV a b).1, 0) else if op = 9 then (vTruth (ltV a b).1, 0) else reckV op a b
set_option maxHeartbeats 2000000 in
theorem pair_any (op : Int) (a b : Vl) (w : World) (ha : okV a) (hb : okV b) (h8 : op = 8 → (eqV a b).2 = 0) (h9 : op = 9 → (ltV a b).2 = 0) : Calls Tryz.prog 271 #[.int .i64 op, agV a, agV b] w (TellP (pairX op a b) w) := by
  have hsf := fun (w : World) (a : Addr) (m : Mode) (b : Nat) => run_store Tryz.prog w a (.float .f64 b) m rfl
  have htr := etruth_any
  have HTR := Lib.hid htr
  clear htr
  by_cases o8 : op = 8
  · subst o8
    have hq : ∀ W, Calls Tryz.prog 285 #[agV a, agV b] W (VMk (pairBE (eqV a b).1 0) W) := fun W => by have := Equal_val a b W; rwa [h8 rfl] at this
    have hr : pairX 8 a b = (vTruth (eqV a b).1, 0) := rfl
    rw [hr]
    clear hr h8 h9
    generalize (eqV a b).1 = r at hq ⊢
    have HQ := Lib.hid hq
    clear hq
    go_enter Tryz.func271, Tryz.ntmps271
    go_wp2_with (first
      | (go_at_call 285; refine (HQ.out _).mono ?_; rintro e w1 ⟨rfl, hb1⟩; obtain ⟨hc1, hf1⟩ := bcell hb1; have hz0 : w.heap.size < w1.heap.size := by { have := hb1.size; simp at this; omega }; have hz1 : w.heap.size + 1 < w1.heap.size := by { have := hb1.size; simp at this; omega }; have hz2 : w.heap.size + 2 < w1.heap.size := by { have := hb1.size; simp at this; omega })
      | (go_at_call 284; refine (sureB_ok _ _).mono ?_; rintro e w2 ⟨rfl, rfl⟩)
      | (go_at_call 270; refine (HTR.out _ _).mono ?_; rintro e w3 ⟨rfl, hb3⟩; obtain ⟨hc3, hf3⟩ := bcell hb3; have hy2 : w.heap.size + 2 < w3.heap.size := by { have := hb3.size; omega }))
    exact bodyPost_ret (v := agV (vTruth r)) (by simp [results, Tryz.results271, go_sem, hc1, hc3, hz0, hz1, hz2, hy2]) rfl ⟨rfl, vbox3_set w _ _ _ hb1 hb3 _ _ _ _ _⟩
  by_cases o9 : op = 9
  · subst o9
    have hq : ∀ W, Calls Tryz.prog 286 #[agV a, agV b] W (VMk (pairBE (ltV a b).1 0) W) := fun W => by have := Less_val a b W ha.2.2 hb.2.2; rwa [h9 rfl] at this
    have hr : pairX 9 a b = (vTruth (ltV a b).1, 0) := rfl
    rw [hr]
    clear hr h8 h9
    generalize (ltV a b).1 = r at hq ⊢
    have HQ := Lib.hid hq
    clear hq
    go_enter Tryz.func271, Tryz.ntmps271
    go_wp2_with (first
      | (go_at_call 286; refine (HQ.out _).mono ?_; rintro e w1 ⟨rfl, hb1⟩; obtain ⟨hc1, hf1⟩ := bcell hb1; have hz0 : w.heap.size < w1.heap.size := by { have := hb1.size; simp at this; omega }; have hz1 : w.heap.size + 1 < w1.heap.size := by { have := hb1.size; simp at this; omega }; have hz2 : w.heap.size + 2 < w1.heap.size := by { have := hb1.size; simp at this; omega })
      | (go_at_call 284; refine (sureB_ok _ _).mono ?_; rintro e w2 ⟨rfl, rfl⟩)
      | (go_at_call 270; refine (HTR.out _ _).mono ?_; rintro e w3 ⟨rfl, hb3⟩; obtain ⟨hc3, hf3⟩ := bcell hb3; have hy2 : w.heap.size + 2 < w3.heap.size := by { have := hb3.size; omega }))
    exact bodyPost_ret (v := agV (vTruth r)) (by simp [results, Tryz.results271, go_sem, hc1, hc3, hz0, hz1, hz2, hy2]) rfl ⟨rfl, vbox3_set w _ _ _ hb1 hb3 _ _ _ _ _⟩
  have hr : pairX op a b = reckV op a b := by unfold pairX; rw [if_neg o8, if_neg o9]
  have hq : ∀ W, Calls Tryz.prog 266 #[.int .i64 op, agV a, agV b] W (VMk (pairVE (reckV op a b).1 (reckV op a b).2) W) := fun W => Reckon_any op a b W ha.2.1 hb.2.1 ha.2.2 hb.2.2
  rw [hr]
  have b8 : (op == 8) = false := by simpa using o8
  have b9 : (op == 9) = false := by simpa using o9
  clear hr h8 h9 o8 o9
  generalize reckV op a b = r at hq ⊢
  obtain ⟨r1, r2⟩ := r
  have HQ := Lib.hid hq
  clear hq
  by_cases h0 : r2 = 0
  · subst h0
    go_enter Tryz.func271, Tryz.ntmps271
    go_wp2_with (first
      | (go_at_call 266; refine (HQ.out _).mono ?_; rintro e w1 ⟨rfl, hb1⟩; obtain ⟨hc1, hf1⟩ := bcell hb1; have hz0 : w.heap.size < w1.heap.size := by { have := hb1.size; simp at this; omega }; have hz1 : w.heap.size + 1 < w1.heap.size := by { have := hb1.size; simp at this; omega }; have hz2 : w.heap.size + 2 < w1.heap.size := by { have := hb1.size; simp at this; omega })
      | (go_at_call 265; refine (sure_ok _ _).mono ?_; rintro e w3 ⟨rfl, hb3⟩; obtain ⟨hc3, hf3⟩ := bcell hb3; have hy2 : w.heap.size + 2 < w3.heap.size := by { have := hb3.size; omega }))
    exact bodyPost_ret (v := agV r1) (by simp [results, Tryz.results271, go_sem, hc1, hc3, hz0, hz1, hz2, hy2]) rfl ⟨rfl, vbox3_set w _ _ _ hb1 hb3 _ _ _ _ _⟩
  · have HB := Lib.hid (sure_bad r1 r2 h0)
    have H0 := Lib.hid h0
    clear h0
    go_enter Tryz.func271, Tryz.ntmps271
    go_wp2_with (first
      | (go_at_call 266; refine (HQ.out _).mono ?_; rintro e w1 ⟨rfl, hb1⟩)
      | (go_at_call 265; refine (HB.out _).mono ?_; rintro e w3 ⟨rfl, hb3⟩))
    exact ⟨rfl, (if_neg H0.out).symm, (vbox3 w _ _ _).trans ((hb1.mono (by simp; omega)).trans (hb3.mono (by have := hb1.size; simp at this; omega)))⟩

theorem alloc1 (W : World) (o : Obj) : Below W.heap.size W (W.alloc o) := (Below.refl _ _).alloc (Nat.le_refl _) o
abbrev agR (FA : Option Addr) (fn FC : Nat) (VA : Option Addr) (vn VC : Nat) : Value := .agg #[.slice FA fn FC, .slice VA vn VC]
abbrev WTell (w : World) (FA : Option Addr) (fn FC : Nat) (VA : Option Addr) (vn VC : Nat) (op : Int) (A : Option Addr) (n c : Nat) (nm : ByteArray) (v : Vl) : World :=
  ((w.alloc (.cells #[.slice FA fn FC, .slice VA vn VC] 247)).alloc (bxX op A n c nm v)).alloc (.cells #[.int .i64 0, .int .i64 0, .bool false, .string { data := #[] }, .float .f64 0] 55)
def TB (w : World) (FA : Option Addr) (fn FC : Nat) (VA : Option Addr) (vn VC : Nat) (op : Int) (A : Option Addr) (n c : Nat) (nm : ByteArray) (v : Vl) (W : World) : Prop :=
  Below w.heap.size w W ∧ w.heap.size + 3 ≤ W.heap.size ∧ W.cell? ⟨w.heap.size, 0, none⟩ = some (.slice FA fn FC) ∧ W.cell? ⟨w.heap.size, 1, none⟩ = some (.slice VA vn VC) ∧ CellsX W (w.heap.size + 1) op A n c nm v ∧
  (∃ cs, W.heap[w.heap.size + 2]? = some (.cells cs 55 (0, 0)) ∧ cs.size = 5)
theorem TB_new (w : World) (FA : Option Addr) (fn FC : Nat) (VA : Option Addr) (vn VC : Nat) (op : Int) (A : Option Addr) (n c : Nat) (nm : ByteArray) (v : Vl) : TB w FA fn FC VA vn VC op A n c nm v (WTell w FA fn FC VA vn VC op A n c nm v) := by
  have h1 := heap_alloc_new w (.cells #[.slice FA fn FC, .slice VA vn VC] 247)
  have hb1 : Below (w.heap.size + 1) (w.alloc (.cells #[.slice FA fn FC, .slice VA vn VC] 247)) (WTell w FA fn FC VA vn VC op A n c nm v) := ((Below.refl _ _).alloc (by simp) _).alloc (by simp) _
  have h2 := Kid_new (w.alloc (.cells #[.slice FA fn FC, .slice VA vn VC] 247)) op A n c nm v
  have hs : (w.alloc (.cells #[.slice FA fn FC, .slice VA vn VC] 247)).heap.size = w.heap.size + 1 := by simp
  rw [hs] at h2
  have h3 := heap_alloc_new ((w.alloc (.cells #[.slice FA fn FC, .slice VA vn VC] 247)).alloc (bxX op A n c nm v)) (.cells #[.int .i64 0, .int .i64 0, .bool false, .string { data := #[] }, .float .f64 0] 55)
  have hs2 : ((w.alloc (.cells #[.slice FA fn FC, .slice VA vn VC] 247)).alloc (bxX op A n c nm v)).heap.size = w.heap.size + 2 := by simp
  rw [hs2] at h3
  refine ⟨vbox3 w _ _ _, by simp, ?_, ?_, h2.below ((Below.refl _ _).alloc (Nat.le_refl _) _), _, h3, rfl⟩
  · exact keepc hb1 (by omega) ((cell_of_row _ _ 0 _ _ (0, 0) h1).trans rfl)
  · exact keepc hb1 (by omega) ((cell_of_row _ _ 1 _ _ (0, 0) h1).trans rfl)
theorem TB.below {w : World} {FA : Option Addr} {fn FC : Nat} {VA : Option Addr} {vn VC : Nat} {op : Int} {A : Option Addr} {n c : Nat} {nm : ByteArray} {v : Vl} {W W' : World} (h : TB w FA fn FC VA vn VC op A n c nm v W) (hb : Below W.heap.size W W') : TB w FA fn FC VA vn VC op A n c nm v W' := by
  obtain ⟨h0, h1, h2, h3, h4, cs, h5, h6⟩ := h
  exact ⟨h0.trans (hb.mono h0.size), Nat.le_trans h1 hb.size, keepc hb (by omega) h2, keepc hb (by omega) h3, h4.below hb, cs, (hb.block _ (by omega)).trans h5, h6⟩
theorem TB.below3 {w : World} {FA : Option Addr} {fn FC : Nat} {VA : Option Addr} {vn VC : Nat} {op : Int} {A : Option Addr} {n c : Nat} {nm : ByteArray} {v : Vl} {W W' : World} (h : TB w FA fn FC VA vn VC op A n c nm v W) (hb : Below (w.heap.size + 3) W W') : TB w FA fn FC VA vn VC op A n c nm v W' := by
  obtain ⟨h0, h1, h2, h3, h4, cs, h5, h6⟩ := h
  refine ⟨h0.trans (hb.mono (by omega)), Nat.le_trans h1 hb.size, keepc hb (by omega) h2, keepc hb (by omega) h3, ?_, cs, (hb.block _ (by omega)).trans h5, h6⟩
  exact ⟨keepc hb (by omega) h4.1, keepc hb (by omega) h4.2.1, keepc hb (by omega) h4.2.2.1, keepc hb (by omega) h4.2.2.2.1, keepc hb (by omega) h4.2.2.2.2.1, keepc hb (by omega) h4.2.2.2.2.2.1, keepc hb (by omega) h4.2.2.2.2.2.2.1, keepc hb (by omega) h4.2.2.2.2.2.2.2⟩
theorem TB.out {w : World} {FA : Option Addr} {fn FC : Nat} {VA : Option Addr} {vn VC : Nat} {op : Int} {A : Option Addr} {n c : Nat} {nm : ByteArray} {v : Vl} {W : World} (h : TB w FA fn FC VA vn VC op A n c nm v W) :
    ∃ u0 u1 u2 u3 u4, W.cell? ⟨w.heap.size + 1 + 1, 0, none⟩ = some u0 ∧ W.cell? ⟨w.heap.size + 1 + 1, 1, none⟩ = some u1 ∧ W.cell? ⟨w.heap.size + 1 + 1, 2, none⟩ = some u2 ∧ W.cell? ⟨w.heap.size + 1 + 1, 3, none⟩ = some u3 ∧ W.cell? ⟨w.heap.size + 1 + 1, 4, none⟩ = some u4 ∧ (∀ j, W.frozen? ⟨w.heap.size + 1 + 1, j, none⟩ = false) := by
  obtain ⟨h0, h1, h2, h3, h4, cs, h5, h6⟩ := h
  have hat : ∀ (j : Nat) (hj : j < 5), W.cell? ⟨w.heap.size + 1 + 1, j, none⟩ = some (cs[j]'(by omega)) := fun j hj => by
    have := cell_of_row W (w.heap.size + 2) j _ _ (0, 0) h5
    rw [this, Array.getElem?_eq_getElem (by omega)]
  exact ⟨_, _, _, _, _, hat 0 (by omega), hat 1 (by omega), hat 2 (by omega), hat 3 (by omega), hat 4 (by omega), fun j => by unfold World.frozen?; have h7 : W.heap[w.heap.size + 1 + 1]? = some (.cells cs 55 (0, 0)) := h5; simp only [h7]; simp⟩
theorem TB.done {w : World} {FA : Option Addr} {fn FC : Nat} {VA : Option Addr} {vn VC : Nat} {op : Int} {A : Option Addr} {n c : Nat} {nm : ByteArray} {v : Vl} {W : World} (h : TB w FA fn FC VA vn VC op A n c nm v W) (u0 u1 u2 u3 u4 : Value) :
    Below w.heap.size w (((((W.setCell ⟨w.heap.size + 2, 0, none⟩ u0).setCell ⟨w.heap.size + 2, 1, none⟩ u1).setCell ⟨w.heap.size + 2, 2, none⟩ u2).setCell ⟨w.heap.size + 2, 3, none⟩ u3).setCell ⟨w.heap.size + 2, 4, none⟩ u4) := below_set5 h.1 (by omega) _ _ _ _ _
def TC (w : World) (FA : Option Addr) (fn FC : Nat) (VA : Option Addr) (vn VC : Nat) (op : Int) (A : Option Addr) (n c : Nat) (nm : ByteArray) (v : Vl) (W : World) : Prop :=
  Below w.heap.size w W ∧ w.heap.size + 2 ≤ W.heap.size ∧ W.cell? ⟨w.heap.size, 0, none⟩ = some (.slice FA fn FC) ∧ W.cell? ⟨w.heap.size, 1, none⟩ = some (.slice VA vn VC) ∧ CellsX W (w.heap.size + 1) op A n c nm v
theorem TB.tc {w : World} {FA : Option Addr} {fn FC : Nat} {VA : Option Addr} {vn VC : Nat} {op : Int} {A : Option Addr} {n c : Nat} {nm : ByteArray} {v : Vl} {W : World} (h : TB w FA fn FC VA vn VC op A n c nm v W) : TC w FA fn FC VA vn VC op A n c nm v W := by
  obtain ⟨h0, h1, h2, h3, h4, h5⟩ := h
  exact ⟨h0, by omega, h2, h3, h4⟩
theorem TC.below2 {w : World} {FA : Option Addr} {fn FC : Nat} {VA : Option Addr} {vn VC : Nat} {op : Int} {A : Option Addr} {n c : Nat} {nm : ByteArray} {v : Vl} {W W' : World} (h : TC w FA fn FC VA vn VC op A n c nm v W) (hb : Below (w.heap.size + 2) W W') : TC w FA fn FC VA vn VC op A n c nm v W' := by
  obtain ⟨h0, h1, h2, h3, h4⟩ := h
  refine ⟨h0.trans (hb.mono (by omega)), Nat.le_trans h1 hb.size, keepc hb (by omega) h2, keepc hb (by omega) h3, ?_⟩
  exact ⟨keepc hb (by omega) h4.1, keepc hb (by omega) h4.2.1, keepc hb (by omega) h4.2.2.1, keepc hb (by omega) h4.2.2.2.1, keepc hb (by omega) h4.2.2.2.2.1, keepc hb (by omega) h4.2.2.2.2.2.1, keepc hb (by omega) h4.2.2.2.2.2.2.1, keepc hb (by omega) h4.2.2.2.2.2.2.2⟩
theorem bx_off {W : World} {b g : Nat} {r : Vl} (h : Bx W b r) (hne : b ≠ g) (u0 u1 u2 u3 u4 : Value) : Bx (((((W.setCell ⟨g, 0, none⟩ u0).setCell ⟨g, 1, none⟩ u1).setCell ⟨g, 2, none⟩ u2).setCell ⟨g, 3, none⟩ u3).setCell ⟨g, 4, none⟩ u4) b r := by
  have hk : ∀ (W : World) (o j : Nat) (u : Value), (W.setCell ⟨g, j, none⟩ u).cell? ⟨b, o, none⟩ = W.cell? ⟨b, o, none⟩ := fun W o j u => World.cell?_setCell_other W (a := ⟨g, j, none⟩) (b := ⟨b, o, none⟩) (v := u) (by intro e; injection e with e _ _; exact hne e.symm)
  unfold Bx
  simp only [hk]
  exact h
abbrev THeldK (w : World) (FA : Option Addr) (fn FC : Nat) (VA : Option Addr) (vn VC : Nat) (op : Int) (ad : Addr) (n c : Nat) (q : Addr) (p0 : Int) (A0 : Option Addr) (n0 c0 : Nat) (m0 : ByteArray) (y0 : Vl) (W : World) : Prop :=
  W.cell? ⟨w.heap.size, 0, none⟩ = some (.slice FA fn FC) ∧ W.cell? ⟨w.heap.size, 1, none⟩ = some (.slice VA vn VC) ∧ W.cell? ⟨w.heap.size + 1, 0, none⟩ = some (.int .i64 op) ∧ W.cell? ⟨w.heap.size + 1, 1, none⟩ = some (.slice (some ad) n c) ∧
  W.cell? q = some (.int .i64 p0) ∧ W.cell? ⟨q.block, q.off + 1, none⟩ = some (.slice A0 n0 c0) ∧ W.cell? ⟨q.block, q.off + 2, none⟩ = some (.string m0) ∧ W.cell? ⟨q.block, q.off + 3, none⟩ = some (.int .i64 y0.k) ∧ W.cell? ⟨q.block, q.off + 4, none⟩ = some (.int .i64 y0.i) ∧ W.cell? ⟨q.block, q.off + 5, none⟩ = some (.bool y0.b) ∧ W.cell? ⟨q.block, q.off + 6, none⟩ = some (.string y0.s) ∧ W.cell? ⟨q.block, q.off + 7, none⟩ = some (.float .f64 y0.n)
abbrev THeld (w : World) (FA : Option Addr) (fn FC : Nat) (VA : Option Addr) (vn VC : Nat) (ad : Addr) (n c : Nat) (p0 : Int) (A0 : Option Addr) (n0 c0 : Nat) (m0 : ByteArray) (y0 : Vl) (W : World) : Prop :=
  W.cell? ⟨w.heap.size, 0, none⟩ = some (.slice FA fn FC) ∧ W.cell? ⟨w.heap.size, 1, none⟩ = some (.slice VA vn VC) ∧ W.cell? ⟨w.heap.size + 1, 1, none⟩ = some (.slice (some ad) n c) ∧
  W.cell? ad = some (.int .i64 p0) ∧ W.cell? ⟨ad.block, ad.off + 1, none⟩ = some (.slice A0 n0 c0) ∧ W.cell? ⟨ad.block, ad.off + 2, none⟩ = some (.string m0) ∧ W.cell? ⟨ad.block, ad.off + 3, none⟩ = some (.int .i64 y0.k) ∧ W.cell? ⟨ad.block, ad.off + 4, none⟩ = some (.int .i64 y0.i) ∧ W.cell? ⟨ad.block, ad.off + 5, none⟩ = some (.bool y0.b) ∧ W.cell? ⟨ad.block, ad.off + 6, none⟩ = some (.string y0.s) ∧ W.cell? ⟨ad.block, ad.off + 7, none⟩ = some (.float .f64 y0.n)
theorem newcells {wb wA : World} (hb : Below ((wb.alloc (.cells #[.int .i64 0, .int .i64 0, .bool false, .string { data := #[] }, .float .f64 0] 55)).drew).heap.size (wb.alloc (.cells #[.int .i64 0, .int .i64 0, .bool false, .string { data := #[] }, .float .f64 0] 55)).drew wA) :
    wA.cell? ⟨wb.heap.size, 0, none⟩ = some (.int .i64 0) ∧ wA.cell? ⟨wb.heap.size, 1, none⟩ = some (.int .i64 0) ∧ wA.cell? ⟨wb.heap.size, 2, none⟩ = some (.bool false) ∧ wA.cell? ⟨wb.heap.size, 3, none⟩ = some (.string { data := #[] }) ∧ wA.cell? ⟨wb.heap.size, 4, none⟩ = some (.float .f64 0) ∧ (∀ j, wA.frozen? ⟨wb.heap.size, j, none⟩ = false) := by
  have h := heap_alloc_new wb (.cells #[.int .i64 0, .int .i64 0, .bool false, .string { data := #[] }, .float .f64 0] 55)
  have h2 : wA.heap[wb.heap.size]? = some (.cells #[.int .i64 0, .int .i64 0, .bool false, .string { data := #[] }, .float .f64 0] 55 (0, 0)) := (hb.block wb.heap.size (by show wb.heap.size < (wb.alloc _).heap.size; simp)).trans h
  exact ⟨(cell_of_row _ _ 0 _ _ (0, 0) h2).trans rfl, (cell_of_row _ _ 1 _ _ (0, 0) h2).trans rfl, (cell_of_row _ _ 2 _ _ (0, 0) h2).trans rfl, (cell_of_row _ _ 3 _ _ (0, 0) h2).trans rfl, (cell_of_row _ _ 4 _ _ (0, 0) h2).trans rfl, fun j => by unfold World.frozen?; simp only [h2]; simp⟩
theorem bx_set {W : World} {b : Nat} {u0 u1 u2 u3 u4 : Value} {r : Vl} (h0 : W.cell? ⟨b, 0, none⟩ = some u0) (h1 : W.cell? ⟨b, 1, none⟩ = some u1) (h2 : W.cell? ⟨b, 2, none⟩ = some u2) (h3 : W.cell? ⟨b, 3, none⟩ = some u3) (h4 : W.cell? ⟨b, 4, none⟩ = some u4) :
    Bx (((((W.setCell ⟨b, 0, none⟩ (.int .i64 r.k)).setCell ⟨b, 1, none⟩ (.int .i64 r.i)).setCell ⟨b, 2, none⟩ (.bool r.b)).setCell ⟨b, 3, none⟩ (.string r.s)).setCell ⟨b, 4, none⟩ (.float .f64 r.n)) b r := by
  refine ⟨?_, ?_, ?_, ?_, ?_⟩ <;> simp [go_sem, h0, h1, h2, h3, h4]
set_option maxHeartbeats 600000 in
theorem tell_3 (FA : Option Addr) (fn FC : Nat) (VA : Option Addr) (vn VC : Nat) (ad : Addr) (n c : Nat) (nm : ByteArray) (v : Vl) (w : World) (A0 : Option Addr) (n0 c0 : Nat) (m0 : ByteArray) (y0 : Vl) (p0 : Int) (R0 : Vl × Int) (hq0 : ∀ W, Below w.heap.size w W → Kid W ad p0 A0 n0 c0 m0 y0) (h0 : ∀ W, Below w.heap.size w W → Calls Tryz.prog 256 #[agR FA fn FC VA vn VC, agX p0 A0 n0 c0 m0 y0] W (TellP R0 W)) (hv0 : R0.2 = 0 → okV R0.1) (hn : 0 < n) (hf : R0.2 = 0 → ∀ W, Calls Tryz.prog 268 #[agV R0.1] W (VMk (pairVE (negV R0.1).1 (negV R0.1).2) W)) :
    Calls Tryz.prog 256 #[agR FA fn FC VA vn VC, agX 3 (some ad) n c nm v] w (TellP (if R0.2 ≠ 0 then (vZero, R0.2) else negV R0.1) w) := by
  have hsf := fun (w : World) (a : Addr) (m : Mode) (b : Nat) => run_store Tryz.prog w a (.float .f64 b) m rfl
  have hi : (0 : Int) < (n : Int) := by omega
  have hn0 : 0 < n := by omega
  obtain ⟨r1, r2⟩ := R0
  have H0 := Lib.hid h0
  clear h0
  by_cases hz : r2 = 0
  · subst hz
    rw [if_neg (fun h => h rfl)]
    have h0 := fun W hb => (H0.out W hb).mono (fun e w' h => (⟨h.1.trans (if_pos rfl), h.2⟩ : e = .returned (agV r1) ∧ Below W.heap.size W w'))
    clear H0
    have H0 := Lib.hid h0
    have hf := hf rfl
    generalize hq : negV r1 = q
    have hq2 : negV (r1, (0 : Int)).1 = q := hq
    rw [hq2] at hf
    have HF := Lib.hid hf
    clear hf hq hq2 h0 hv0
    have htb : TB w FA fn FC VA vn VC 3 (some ad) n c nm v (((w.alloc (.cells #[.slice FA fn FC, .slice VA vn VC] 247)).alloc (.cells #[.int .i64 3, .slice (some ad) n c, .string nm, .int .i64 v.k, .int .i64 v.i, .bool v.b, .string v.s, .float .f64 v.n] 77)).alloc (.cells #[.int .i64 0, .int .i64 0, .bool false, .string { data := #[] }, .float .f64 0] 55)) := TB_new w FA fn FC VA vn VC 3 (some ad) n c nm v
    have HHELD := Lib.hid (fun W (hb : TB w FA fn FC VA vn VC 3 (some ad) n c nm v W) => (show THeld w FA fn FC VA vn VC ad n c p0 A0 n0 c0 m0 y0 W from let q := hq0 W hb.1; ⟨hb.2.2.1, hb.2.2.2.1, hb.2.2.2.2.1.2.1, q.1, q.2.1, q.2.2.1, q.2.2.2.1, q.2.2.2.2.1, q.2.2.2.2.2.1, q.2.2.2.2.2.2.1, q.2.2.2.2.2.2.2⟩))
    clear hq0
    have HKP := Lib.hid (fun (W W' : World) (h : TB w FA fn FC VA vn VC 3 (some ad) n c nm v W ∧ THeld w FA fn FC VA vn VC ad n c p0 A0 n0 c0 m0 y0 W) (hb : Below W.heap.size W W') => And.intro (h.1.below hb) (HHELD.out _ (h.1.below hb)))
    have HKS := Lib.hid (fun (W : World) (b : Nat) (u0 u1 u2 u3 u4 : Value) (hge : w.heap.size + 3 ≤ b) (h : TB w FA fn FC VA vn VC 3 (some ad) n c nm v W ∧ THeld w FA fn FC VA vn VC ad n c p0 A0 n0 c0 m0 y0 W) => let hb := below_set5 (Below.refl (w.heap.size + 3) W) hge u0 u1 u2 u3 u4; And.intro (h.1.below3 hb) (HHELD.out _ (h.1.below3 hb)))
    go_enter Tryz.func256, Tryz.ntmps256
    go_upto_region 6 with fail
    generalize ((w.alloc (.cells #[.slice FA fn FC, .slice VA vn VC] 247)).alloc (.cells #[.int .i64 3, .slice (some ad) n c, .string nm, .int .i64 v.k, .int .i64 v.i, .bool v.b, .string v.s, .float .f64 v.n] 77)).alloc (.cells #[.int .i64 0, .int .i64 0, .bool false, .string { data := #[] }, .float .f64 0] 55) = wb at *
    go_cut [5] from 23 to 28 (fun s5 wx => ∃ b, s5 = .pointer (some ⟨b, 0, none⟩) ∧ w.heap.size + 3 ≤ b ∧ TB w FA fn FC VA vn VC 3 (some ad) n c nm v wx ∧ Bx wx b r1)
    case first =>
      have hS0 : TB w FA fn FC VA vn VC 3 (some ad) n c nm v wb.drew ∧ THeld w FA fn FC VA vn VC ad n c p0 A0 n0 c0 m0 y0 wb.drew := ⟨htb.below (Below.refl _ _).drew, HHELD.out _ (htb.below (Below.refl _ _).drew)⟩
      refine wp_region_held_drew (S := (fun W => TB w FA fn FC VA vn VC 3 (some ad) n c nm v W ∧ THeld w FA fn FC VA vn VC ad n c p0 A0 n0 c0 m0 y0 W)) (by kernel_rfl) (hS0) (fun hHeld => ?_)
      refine tk 0 ?_
      (try simp only [Act.put, sA, sB, sC])
      refine tk 1 ?_
      (try simp only [Act.put, sA, sB, sC])
      refine tk 2 ?_
      (try simp only [Act.put, sA, sB, sC])
      refine tk 3 ?_
      (try simp only [Act.put, sA, sB, sC])
      refine tk 4 ?_
      (try simp only [Act.put, sA, sB, sC])
      refine wpAnyH_ready (rs := [5, 6]) (by kernel_rfl) (by simp) ?_
      refine AllReadyH.cons (o := ?o6) ?g6 (fun K hK => ?j6) (AllReadyH.cons (o := ?o7) ?g7 (fun K hK => ?j7) AllReadyH.nil)
      case g6 => (simp only [gA, gB, gC]; rfl)
      case g7 => (simp only [gA, gB, gC]; rfl)
      · go_simp
        refine (H0.out _ (And.left (And.left hHeld))).mono ?_; rintro e wA ⟨rfl, hbA⟩; have hSA := HKP.out _ _ hHeld hbA
        refine hK.out _ _ ?_ (fun hHeld => ?_)
        · (try dsimp only); exact hSA
        clear hK K
        (try simp only [Act.put, sA, sB, sC])
        refine wpAnyH_ready (rs := [6]) (by kernel_rfl) (by simp) ?_
        refine AllReadyH.cons (o := ?o8) ?g8 (fun K hK => ?j8) AllReadyH.nil
        case g8 => (simp only [gA, gB, gC]; rfl)
        go_simp
        refine hK.out _ _ ?_ (fun hHeld => ?_)
        · (try dsimp only); exact HKP.out _ _ hSA (alloc1 _ _)
        clear hK K
        (try simp only [Act.put, sA, sB, sC])
        refine wpAnyH_ready (rs := [7]) (by kernel_rfl) (by simp) ?_
        refine AllReadyH.cons (o := ?o9) ?g9 (fun K hK => ?j9) AllReadyH.nil
        case g9 => (simp only [gA, gB, gC]; rfl)
        go_simp
        refine hK.out _ _ ?_ (fun hHeld => ?_)
        · (try dsimp only); exact HKP.out _ _ hSA (alloc1 _ _)
        clear hK K
        (try simp only [Act.put, sA, sB, sC])
        refine wpAnyH_done (by kernel_rfl) ?_ _
        go_wp2_with fail
        go_meet
        exact ⟨_, rfl, hSA.1.2.1, hHeld.1, Bx.new _ r1⟩
      · go_simp
        refine hK.out _ _ ?_ (fun hHeld => ?_)
        · (try dsimp only); exact HKP.out _ _ hS0 (alloc1 _ _)
        clear hK K
        (try simp only [Act.put, sA, sB, sC])
        refine wpAnyH_ready (rs := [5]) (by kernel_rfl) (by simp) ?_
        refine AllReadyH.cons (o := ?o10) ?g10 (fun K hK => ?j10) AllReadyH.nil
        case g10 => (simp only [gA, gB, gC]; rfl)
        go_simp
        refine (H0.out _ (And.left (And.left hHeld))).mono ?_; rintro e wA ⟨rfl, hbA⟩; have hSA := HKP.out _ _ hHeld hbA; obtain ⟨e0, e1, e2, e3, e4, ef⟩ := newcells hbA
        refine hK.out _ _ ?_ (fun hHeld => ?_)
        · (try dsimp only); exact hSA
        clear hK K
        (try simp only [Act.put, sA, sB, sC])
        refine wpAnyH_ready (rs := [7]) (by kernel_rfl) (by simp) ?_
        refine AllReadyH.cons (o := ?o11) ?g11 (fun K hK => ?j11) AllReadyH.nil
        case g11 => (simp only [gA, gB, gC]; rfl)
        go_simp
        refine hK.out _ _ ?_ (fun hHeld => ?_)
        · (try dsimp only); exact HKS.out _ _ _ _ _ _ _ htb.2.1 hSA
        clear hK K
        (try simp only [Act.put, sA, sB, sC])
        refine wpAnyH_done (by kernel_rfl) ?_ _
        go_wp2_with fail
        go_meet
        exact ⟨_, rfl, htb.2.1, hHeld.1, bx_set e0 e1 e2 e3 e4⟩
    case rest =>
      clear htb HHELD HKP HKS
      obtain ⟨b, rfl, hbge, hTB, hx0, hx1, hx2, hx3, hx4⟩ := hcut
      obtain ⟨d0, d1, d2, d3, d4, d5, d6, d7⟩ := hTB.2.2.2.2.1
      have g0 := hTB.2.2.1
      have g1 := hTB.2.2.2.1
      obtain ⟨q1, q2⟩ := q
      by_cases hf : q2 = 0
      · subst hf
        go_wp2_with (first
          | (go_at_call 268; refine (HF.out _).mono ?_; rintro e w2 ⟨rfl, hb2⟩; have hT2 := hTB.below hb2)
          | (go_at_call 265; refine (sure_ok _ _).mono ?_; rintro e w3 ⟨rfl, hb3⟩; have hT3 := hT2.below hb3; obtain ⟨ou0, ou1, ou2, ou3, ou4, ov0, ov1, ov2, ov3, ov4, ovf⟩ := TB.out hT3))
        exact bodyPost_ret (v := agV q1) (by simp [results, Tryz.results256, go_sem, ov0, ov1, ov2, ov3, ov4]) rfl ⟨rfl, TB.done hT3 _ _ _ _ _⟩
      · have HB := Lib.hid (sure_bad q1 q2 hf)
        have HNE := Lib.hid hf
        clear hf
        go_wp2_with (first
          | (go_at_call 268; refine (HF.out _).mono ?_; rintro e w2 ⟨rfl, hb2⟩; have hT2 := hTB.below hb2)
          | (go_at_call 265; refine (HB.out _).mono ?_; rintro e w3 ⟨rfl, hb3⟩))
        exact ⟨rfl, (if_neg HNE.out).symm, (hT2.1.trans (hb3.mono hT2.1.size))⟩
  · have h0 := fun W hb => (H0.out W hb).mono (fun e w' h => (⟨h.1.trans (if_neg hz), h.2⟩ : e = .panicked (PV r2) ∧ Below W.heap.size W w'))
    clear H0
    have H0 := Lib.hid h0
    have HZ := Lib.hid hz
    rw [if_pos hz]
    clear h0 hv0 hz
    have htb : TB w FA fn FC VA vn VC 3 (some ad) n c nm v (((w.alloc (.cells #[.slice FA fn FC, .slice VA vn VC] 247)).alloc (.cells #[.int .i64 3, .slice (some ad) n c, .string nm, .int .i64 v.k, .int .i64 v.i, .bool v.b, .string v.s, .float .f64 v.n] 77)).alloc (.cells #[.int .i64 0, .int .i64 0, .bool false, .string { data := #[] }, .float .f64 0] 55)) := TB_new w FA fn FC VA vn VC 3 (some ad) n c nm v
    have HHELD := Lib.hid (fun W (hb : TB w FA fn FC VA vn VC 3 (some ad) n c nm v W) => (show THeld w FA fn FC VA vn VC ad n c p0 A0 n0 c0 m0 y0 W from let q := hq0 W hb.1; ⟨hb.2.2.1, hb.2.2.2.1, hb.2.2.2.2.1.2.1, q.1, q.2.1, q.2.2.1, q.2.2.2.1, q.2.2.2.2.1, q.2.2.2.2.2.1, q.2.2.2.2.2.2.1, q.2.2.2.2.2.2.2⟩))
    clear hq0
    have HKP := Lib.hid (fun (W W' : World) (h : TB w FA fn FC VA vn VC 3 (some ad) n c nm v W ∧ THeld w FA fn FC VA vn VC ad n c p0 A0 n0 c0 m0 y0 W) (hb : Below W.heap.size W W') => And.intro (h.1.below hb) (HHELD.out _ (h.1.below hb)))
    have HKS := Lib.hid (fun (W : World) (b : Nat) (u0 u1 u2 u3 u4 : Value) (hge : w.heap.size + 3 ≤ b) (h : TB w FA fn FC VA vn VC 3 (some ad) n c nm v W ∧ THeld w FA fn FC VA vn VC ad n c p0 A0 n0 c0 m0 y0 W) => let hb := below_set5 (Below.refl (w.heap.size + 3) W) hge u0 u1 u2 u3 u4; And.intro (h.1.below3 hb) (HHELD.out _ (h.1.below3 hb)))
    go_enter Tryz.func256, Tryz.ntmps256
    go_upto_region 6 with fail
    generalize ((w.alloc (.cells #[.slice FA fn FC, .slice VA vn VC] 247)).alloc (.cells #[.int .i64 3, .slice (some ad) n c, .string nm, .int .i64 v.k, .int .i64 v.i, .bool v.b, .string v.s, .float .f64 v.n] 77)).alloc (.cells #[.int .i64 0, .int .i64 0, .bool false, .string { data := #[] }, .float .f64 0] 55) = wb at *
    have hS0 : TB w FA fn FC VA vn VC 3 (some ad) n c nm v wb.drew ∧ THeld w FA fn FC VA vn VC ad n c p0 A0 n0 c0 m0 y0 wb.drew := ⟨htb.below (Below.refl _ _).drew, HHELD.out _ (htb.below (Below.refl _ _).drew)⟩
    refine wp_region_held_drew (S := (fun W => TB w FA fn FC VA vn VC 3 (some ad) n c nm v W ∧ THeld w FA fn FC VA vn VC ad n c p0 A0 n0 c0 m0 y0 W)) (by kernel_rfl) (hS0) (fun hHeld => ?_)
    refine tk 0 ?_
    (try simp only [Act.put, sA, sB, sC])
    refine tk 1 ?_
    (try simp only [Act.put, sA, sB, sC])
    refine tk 2 ?_
    (try simp only [Act.put, sA, sB, sC])
    refine tk 3 ?_
    (try simp only [Act.put, sA, sB, sC])
    refine tk 4 ?_
    (try simp only [Act.put, sA, sB, sC])
    refine wpAnyH_ready (rs := [5, 6]) (by kernel_rfl) (by simp) ?_
    refine AllReadyH.cons (o := ?o17) ?g17 (fun K hK => ?j17) (AllReadyH.cons (o := ?o18) ?g18 (fun K hK => ?j18) AllReadyH.nil)
    case g17 => (simp only [gA, gB, gC]; rfl)
    case g18 => (simp only [gA, gB, gC]; rfl)
    · go_simp
      refine (H0.out _ (And.left (And.left hHeld))).mono ?_; rintro e wA ⟨rfl, hbA⟩
      exact ⟨rfl, (if_neg HZ.out).symm, (And.left (And.left hHeld)).trans (hbA.mono (And.left (And.left hHeld)).size)⟩
    · go_simp
      refine hK.out _ _ ?_ (fun hHeld => ?_)
      · (try dsimp only); exact HKP.out _ _ hS0 (alloc1 _ _)
      clear hK K
      (try simp only [Act.put, sA, sB, sC])
      refine wpAnyH_ready (rs := [5]) (by kernel_rfl) (by simp) ?_
      refine AllReadyH.cons (o := ?o19) ?g19 (fun K hK => ?j19) AllReadyH.nil
      case g19 => (simp only [gA, gB, gC]; rfl)
      go_simp
      refine (H0.out _ (And.left (And.left hHeld))).mono ?_; rintro e wA ⟨rfl, hbA⟩
      exact ⟨rfl, (if_neg HZ.out).symm, (And.left (And.left hHeld)).trans (hbA.mono (And.left (And.left hHeld)).size)⟩
set_option maxHeartbeats 600000 in
theorem tell_16 (FA : Option Addr) (fn FC : Nat) (VA : Option Addr) (vn VC : Nat) (ad : Addr) (n c : Nat) (nm : ByteArray) (v : Vl) (w : World) (A0 : Option Addr) (n0 c0 : Nat) (m0 : ByteArray) (y0 : Vl) (p0 : Int) (R0 : Vl × Int) (hq0 : ∀ W, Below w.heap.size w W → Kid W ad p0 A0 n0 c0 m0 y0) (h0 : ∀ W, Below w.heap.size w W → Calls Tryz.prog 256 #[agR FA fn FC VA vn VC, agX p0 A0 n0 c0 m0 y0] W (TellP R0 W)) (hv0 : R0.2 = 0 → okV R0.1) (hn : 0 < n) (hf : R0.2 = 0 → ∀ W, Calls Tryz.prog 269 #[agV R0.1] W (VMk (pairVE (floatV R0.1).1 (floatV R0.1).2) W)) :
    Calls Tryz.prog 256 #[agR FA fn FC VA vn VC, agX 16 (some ad) n c nm v] w (TellP (if R0.2 ≠ 0 then (vZero, R0.2) else floatV R0.1) w) := by
  have hsf := fun (w : World) (a : Addr) (m : Mode) (b : Nat) => run_store Tryz.prog w a (.float .f64 b) m rfl
  have hi : (0 : Int) < (n : Int) := by omega
  have hn0 : 0 < n := by omega
  obtain ⟨r1, r2⟩ := R0
  have H0 := Lib.hid h0
  clear h0
  by_cases hz : r2 = 0
  · subst hz
    rw [if_neg (fun h => h rfl)]
    have h0 := fun W hb => (H0.out W hb).mono (fun e w' h => (⟨h.1.trans (if_pos rfl), h.2⟩ : e = .returned (agV r1) ∧ Below W.heap.size W w'))
    clear H0
    have H0 := Lib.hid h0
    have hf := hf rfl
    generalize hq : floatV r1 = q
    have hq2 : floatV (r1, (0 : Int)).1 = q := hq
    rw [hq2] at hf
    have HF := Lib.hid hf
    clear hf hq hq2 h0 hv0
    have htb : TB w FA fn FC VA vn VC 16 (some ad) n c nm v (((w.alloc (.cells #[.slice FA fn FC, .slice VA vn VC] 247)).alloc (.cells #[.int .i64 16, .slice (some ad) n c, .string nm, .int .i64 v.k, .int .i64 v.i, .bool v.b, .string v.s, .float .f64 v.n] 77)).alloc (.cells #[.int .i64 0, .int .i64 0, .bool false, .string { data := #[] }, .float .f64 0] 55)) := TB_new w FA fn FC VA vn VC 16 (some ad) n c nm v
    have HHELD := Lib.hid (fun W (hb : TB w FA fn FC VA vn VC 16 (some ad) n c nm v W) => (show THeld w FA fn FC VA vn VC ad n c p0 A0 n0 c0 m0 y0 W from let q := hq0 W hb.1; ⟨hb.2.2.1, hb.2.2.2.1, hb.2.2.2.2.1.2.1, q.1, q.2.1, q.2.2.1, q.2.2.2.1, q.2.2.2.2.1, q.2.2.2.2.2.1, q.2.2.2.2.2.2.1, q.2.2.2.2.2.2.2⟩))
    clear hq0
    have HKP := Lib.hid (fun (W W' : World) (h : TB w FA fn FC VA vn VC 16 (some ad) n c nm v W ∧ THeld w FA fn FC VA vn VC ad n c p0 A0 n0 c0 m0 y0 W) (hb : Below W.heap.size W W') => And.intro (h.1.below hb) (HHELD.out _ (h.1.below hb)))
    have HKS := Lib.hid (fun (W : World) (b : Nat) (u0 u1 u2 u3 u4 : Value) (hge : w.heap.size + 3 ≤ b) (h : TB w FA fn FC VA vn VC 16 (some ad) n c nm v W ∧ THeld w FA fn FC VA vn VC ad n c p0 A0 n0 c0 m0 y0 W) => let hb := below_set5 (Below.refl (w.heap.size + 3) W) hge u0 u1 u2 u3 u4; And.intro (h.1.below3 hb) (HHELD.out _ (h.1.below3 hb)))
    go_enter Tryz.func256, Tryz.ntmps256
    go_upto_region 6 with fail
    generalize ((w.alloc (.cells #[.slice FA fn FC, .slice VA vn VC] 247)).alloc (.cells #[.int .i64 16, .slice (some ad) n c, .string nm, .int .i64 v.k, .int .i64 v.i, .bool v.b, .string v.s, .float .f64 v.n] 77)).alloc (.cells #[.int .i64 0, .int .i64 0, .bool false, .string { data := #[] }, .float .f64 0] 55) = wb at *
    go_cut [5] from 23 to 28 (fun s5 wx => ∃ b, s5 = .pointer (some ⟨b, 0, none⟩) ∧ w.heap.size + 3 ≤ b ∧ TB w FA fn FC VA vn VC 16 (some ad) n c nm v wx ∧ Bx wx b r1)
    case first =>
      have hS0 : TB w FA fn FC VA vn VC 16 (some ad) n c nm v wb.drew ∧ THeld w FA fn FC VA vn VC ad n c p0 A0 n0 c0 m0 y0 wb.drew := ⟨htb.below (Below.refl _ _).drew, HHELD.out _ (htb.below (Below.refl _ _).drew)⟩
      refine wp_region_held_drew (S := (fun W => TB w FA fn FC VA vn VC 16 (some ad) n c nm v W ∧ THeld w FA fn FC VA vn VC ad n c p0 A0 n0 c0 m0 y0 W)) (by kernel_rfl) (hS0) (fun hHeld => ?_)
      refine tk 0 ?_
      (try simp only [Act.put, sA, sB, sC])
      refine tk 1 ?_
      (try simp only [Act.put, sA, sB, sC])
      refine tk 2 ?_
      (try simp only [Act.put, sA, sB, sC])
      refine tk 3 ?_
      (try simp only [Act.put, sA, sB, sC])
      refine tk 4 ?_
      (try simp only [Act.put, sA, sB, sC])
      refine wpAnyH_ready (rs := [5, 6]) (by kernel_rfl) (by simp) ?_
      refine AllReadyH.cons (o := ?o25) ?g25 (fun K hK => ?j25) (AllReadyH.cons (o := ?o26) ?g26 (fun K hK => ?j26) AllReadyH.nil)
      case g25 => (simp only [gA, gB, gC]; rfl)
      case g26 => (simp only [gA, gB, gC]; rfl)
      · go_simp
        refine (H0.out _ (And.left (And.left hHeld))).mono ?_; rintro e wA ⟨rfl, hbA⟩; have hSA := HKP.out _ _ hHeld hbA
        refine hK.out _ _ ?_ (fun hHeld => ?_)
        · (try dsimp only); exact hSA
        clear hK K
        (try simp only [Act.put, sA, sB, sC])
        refine wpAnyH_ready (rs := [6]) (by kernel_rfl) (by simp) ?_
        refine AllReadyH.cons (o := ?o27) ?g27 (fun K hK => ?j27) AllReadyH.nil
        case g27 => (simp only [gA, gB, gC]; rfl)
        go_simp
        refine hK.out _ _ ?_ (fun hHeld => ?_)
        · (try dsimp only); exact HKP.out _ _ hSA (alloc1 _ _)
        clear hK K
        (try simp only [Act.put, sA, sB, sC])
        refine wpAnyH_ready (rs := [7]) (by kernel_rfl) (by simp) ?_
        refine AllReadyH.cons (o := ?o28) ?g28 (fun K hK => ?j28) AllReadyH.nil
        case g28 => (simp only [gA, gB, gC]; rfl)
        go_simp
        refine hK.out _ _ ?_ (fun hHeld => ?_)
        · (try dsimp only); exact HKP.out _ _ hSA (alloc1 _ _)
        clear hK K
        (try simp only [Act.put, sA, sB, sC])
        refine wpAnyH_done (by kernel_rfl) ?_ _
        go_wp2_with fail
        go_meet
        exact ⟨_, rfl, hSA.1.2.1, hHeld.1, Bx.new _ r1⟩
      · go_simp
        refine hK.out _ _ ?_ (fun hHeld => ?_)
        · (try dsimp only); exact HKP.out _ _ hS0 (alloc1 _ _)
        clear hK K
        (try simp only [Act.put, sA, sB, sC])
        refine wpAnyH_ready (rs := [5]) (by kernel_rfl) (by simp) ?_
        refine AllReadyH.cons (o := ?o29) ?g29 (fun K hK => ?j29) AllReadyH.nil
        case g29 => (simp only [gA, gB, gC]; rfl)
        go_simp
        refine (H0.out _ (And.left (And.left hHeld))).mono ?_; rintro e wA ⟨rfl, hbA⟩; have hSA := HKP.out _ _ hHeld hbA; obtain ⟨e0, e1, e2, e3, e4, ef⟩ := newcells hbA
        refine hK.out _ _ ?_ (fun hHeld => ?_)
        · (try dsimp only); exact hSA
        clear hK K
        (try simp only [Act.put, sA, sB, sC])
        refine wpAnyH_ready (rs := [7]) (by kernel_rfl) (by simp) ?_
        refine AllReadyH.cons (o := ?o30) ?g30 (fun K hK => ?j30) AllReadyH.nil
        case g30 => (simp only [gA, gB, gC]; rfl)
        go_simp
        refine hK.out _ _ ?_ (fun hHeld => ?_)
        · (try dsimp only); exact HKS.out _ _ _ _ _ _ _ htb.2.1 hSA
        clear hK K
        (try simp only [Act.put, sA, sB, sC])
        refine wpAnyH_done (by kernel_rfl) ?_ _
        go_wp2_with fail
        go_meet
        exact ⟨_, rfl, htb.2.1, hHeld.1, bx_set e0 e1 e2 e3 e4⟩
    case rest =>
      clear htb HHELD HKP HKS
      obtain ⟨b, rfl, hbge, hTB, hx0, hx1, hx2, hx3, hx4⟩ := hcut
      obtain ⟨d0, d1, d2, d3, d4, d5, d6, d7⟩ := hTB.2.2.2.2.1
      have g0 := hTB.2.2.1
      have g1 := hTB.2.2.2.1
      obtain ⟨q1, q2⟩ := q
      by_cases hf : q2 = 0
      · subst hf
        go_wp2_with (first
          | (go_at_call 269; refine (HF.out _).mono ?_; rintro e w2 ⟨rfl, hb2⟩; have hT2 := hTB.below hb2)
          | (go_at_call 265; refine (sure_ok _ _).mono ?_; rintro e w3 ⟨rfl, hb3⟩; have hT3 := hT2.below hb3; obtain ⟨ou0, ou1, ou2, ou3, ou4, ov0, ov1, ov2, ov3, ov4, ovf⟩ := TB.out hT3))
        exact bodyPost_ret (v := agV q1) (by simp [results, Tryz.results256, go_sem, ov0, ov1, ov2, ov3, ov4]) rfl ⟨rfl, TB.done hT3 _ _ _ _ _⟩
      · have HB := Lib.hid (sure_bad q1 q2 hf)
        have HNE := Lib.hid hf
        clear hf
        go_wp2_with (first
          | (go_at_call 269; refine (HF.out _).mono ?_; rintro e w2 ⟨rfl, hb2⟩; have hT2 := hTB.below hb2)
          | (go_at_call 265; refine (HB.out _).mono ?_; rintro e w3 ⟨rfl, hb3⟩))
        exact ⟨rfl, (if_neg HNE.out).symm, (hT2.1.trans (hb3.mono hT2.1.size))⟩
  · have h0 := fun W hb => (H0.out W hb).mono (fun e w' h => (⟨h.1.trans (if_neg hz), h.2⟩ : e = .panicked (PV r2) ∧ Below W.heap.size W w'))
    clear H0
    have H0 := Lib.hid h0
    have HZ := Lib.hid hz
    rw [if_pos hz]
    clear h0 hv0 hz
    have htb : TB w FA fn FC VA vn VC 16 (some ad) n c nm v (((w.alloc (.cells #[.slice FA fn FC, .slice VA vn VC] 247)).alloc (.cells #[.int .i64 16, .slice (some ad) n c, .string nm, .int .i64 v.k, .int .i64 v.i, .bool v.b, .string v.s, .float .f64 v.n] 77)).alloc (.cells #[.int .i64 0, .int .i64 0, .bool false, .string { data := #[] }, .float .f64 0] 55)) := TB_new w FA fn FC VA vn VC 16 (some ad) n c nm v
    have HHELD := Lib.hid (fun W (hb : TB w FA fn FC VA vn VC 16 (some ad) n c nm v W) => (show THeld w FA fn FC VA vn VC ad n c p0 A0 n0 c0 m0 y0 W from let q := hq0 W hb.1; ⟨hb.2.2.1, hb.2.2.2.1, hb.2.2.2.2.1.2.1, q.1, q.2.1, q.2.2.1, q.2.2.2.1, q.2.2.2.2.1, q.2.2.2.2.2.1, q.2.2.2.2.2.2.1, q.2.2.2.2.2.2.2⟩))
    clear hq0
    have HKP := Lib.hid (fun (W W' : World) (h : TB w FA fn FC VA vn VC 16 (some ad) n c nm v W ∧ THeld w FA fn FC VA vn VC ad n c p0 A0 n0 c0 m0 y0 W) (hb : Below W.heap.size W W') => And.intro (h.1.below hb) (HHELD.out _ (h.1.below hb)))
    have HKS := Lib.hid (fun (W : World) (b : Nat) (u0 u1 u2 u3 u4 : Value) (hge : w.heap.size + 3 ≤ b) (h : TB w FA fn FC VA vn VC 16 (some ad) n c nm v W ∧ THeld w FA fn FC VA vn VC ad n c p0 A0 n0 c0 m0 y0 W) => let hb := below_set5 (Below.refl (w.heap.size + 3) W) hge u0 u1 u2 u3 u4; And.intro (h.1.below3 hb) (HHELD.out _ (h.1.below3 hb)))
    go_enter Tryz.func256, Tryz.ntmps256
    go_upto_region 6 with fail
    generalize ((w.alloc (.cells #[.slice FA fn FC, .slice VA vn VC] 247)).alloc (.cells #[.int .i64 16, .slice (some ad) n c, .string nm, .int .i64 v.k, .int .i64 v.i, .bool v.b, .string v.s, .float .f64 v.n] 77)).alloc (.cells #[.int .i64 0, .int .i64 0, .bool false, .string { data := #[] }, .float .f64 0] 55) = wb at *
    have hS0 : TB w FA fn FC VA vn VC 16 (some ad) n c nm v wb.drew ∧ THeld w FA fn FC VA vn VC ad n c p0 A0 n0 c0 m0 y0 wb.drew := ⟨htb.below (Below.refl _ _).drew, HHELD.out _ (htb.below (Below.refl _ _).drew)⟩
    refine wp_region_held_drew (S := (fun W => TB w FA fn FC VA vn VC 16 (some ad) n c nm v W ∧ THeld w FA fn FC VA vn VC ad n c p0 A0 n0 c0 m0 y0 W)) (by kernel_rfl) (hS0) (fun hHeld => ?_)
    refine tk 0 ?_
    (try simp only [Act.put, sA, sB, sC])
    refine tk 1 ?_
    (try simp only [Act.put, sA, sB, sC])
    refine tk 2 ?_
    (try simp only [Act.put, sA, sB, sC])
    refine tk 3 ?_
    (try simp only [Act.put, sA, sB, sC])
    refine tk 4 ?_
    (try simp only [Act.put, sA, sB, sC])
    refine wpAnyH_ready (rs := [5, 6]) (by kernel_rfl) (by simp) ?_
    refine AllReadyH.cons (o := ?o36) ?g36 (fun K hK => ?j36) (AllReadyH.cons (o := ?o37) ?g37 (fun K hK => ?j37) AllReadyH.nil)
    case g36 => (simp only [gA, gB, gC]; rfl)
    case g37 => (simp only [gA, gB, gC]; rfl)
    · go_simp
      refine (H0.out _ (And.left (And.left hHeld))).mono ?_; rintro e wA ⟨rfl, hbA⟩
      exact ⟨rfl, (if_neg HZ.out).symm, (And.left (And.left hHeld)).trans (hbA.mono (And.left (And.left hHeld)).size)⟩
    · go_simp
      refine hK.out _ _ ?_ (fun hHeld => ?_)
      · (try dsimp only); exact HKP.out _ _ hS0 (alloc1 _ _)
      clear hK K
      (try simp only [Act.put, sA, sB, sC])
      refine wpAnyH_ready (rs := [5]) (by kernel_rfl) (by simp) ?_
      refine AllReadyH.cons (o := ?o38) ?g38 (fun K hK => ?j38) AllReadyH.nil
      case g38 => (simp only [gA, gB, gC]; rfl)
      go_simp
      refine (H0.out _ (And.left (And.left hHeld))).mono ?_; rintro e wA ⟨rfl, hbA⟩
      exact ⟨rfl, (if_neg HZ.out).symm, (And.left (And.left hHeld)).trans (hbA.mono (And.left (And.left hHeld)).size)⟩
set_option maxHeartbeats 600000 in
theorem tell_12 (FA : Option Addr) (fn FC : Nat) (VA : Option Addr) (vn VC : Nat) (ad : Addr) (n c : Nat) (nm : ByteArray) (v : Vl) (w : World) (A0 : Option Addr) (n0 c0 : Nat) (m0 : ByteArray) (y0 : Vl) (p0 : Int) (R0 : Vl × Int) (hq0 : ∀ W, Below w.heap.size w W → Kid W ad p0 A0 n0 c0 m0 y0) (h0 : ∀ W, Below w.heap.size w W → Calls Tryz.prog 256 #[agR FA fn FC VA vn VC, agX p0 A0 n0 c0 m0 y0] W (TellP R0 W)) (hv0 : R0.2 = 0 → okV R0.1) (hn : 0 < n) :
    Calls Tryz.prog 256 #[agR FA fn FC VA vn VC, agX 12 (some ad) n c nm v] w (TellP (if R0.2 ≠ 0 then (vZero, R0.2) else (vTruth (!R0.1.b), 0)) w) := by
  have hsf := fun (w : World) (a : Addr) (m : Mode) (b : Nat) => run_store Tryz.prog w a (.float .f64 b) m rfl
  have hi : (0 : Int) < (n : Int) := by omega
  have hn0 : 0 < n := by omega
  obtain ⟨r1, r2⟩ := R0
  have H0 := Lib.hid h0
  clear h0
  by_cases hz : r2 = 0
  · subst hz
    rw [if_neg (fun h => h rfl)]
    have h0 := fun W hb => (H0.out W hb).mono (fun e w' h => (⟨h.1.trans (if_pos rfl), h.2⟩ : e = .returned (agV r1) ∧ Below W.heap.size W w'))
    clear H0
    have H0 := Lib.hid h0
    clear h0 hv0
    have htb : TB w FA fn FC VA vn VC 12 (some ad) n c nm v (((w.alloc (.cells #[.slice FA fn FC, .slice VA vn VC] 247)).alloc (.cells #[.int .i64 12, .slice (some ad) n c, .string nm, .int .i64 v.k, .int .i64 v.i, .bool v.b, .string v.s, .float .f64 v.n] 77)).alloc (.cells #[.int .i64 0, .int .i64 0, .bool false, .string { data := #[] }, .float .f64 0] 55)) := TB_new w FA fn FC VA vn VC 12 (some ad) n c nm v
    have HHELD := Lib.hid (fun W (hb : TB w FA fn FC VA vn VC 12 (some ad) n c nm v W) => (show THeld w FA fn FC VA vn VC ad n c p0 A0 n0 c0 m0 y0 W from let q := hq0 W hb.1; ⟨hb.2.2.1, hb.2.2.2.1, hb.2.2.2.2.1.2.1, q.1, q.2.1, q.2.2.1, q.2.2.2.1, q.2.2.2.2.1, q.2.2.2.2.2.1, q.2.2.2.2.2.2.1, q.2.2.2.2.2.2.2⟩))
    clear hq0
    have HKP := Lib.hid (fun (W W' : World) (h : TB w FA fn FC VA vn VC 12 (some ad) n c nm v W ∧ THeld w FA fn FC VA vn VC ad n c p0 A0 n0 c0 m0 y0 W) (hb : Below W.heap.size W W') => And.intro (h.1.below hb) (HHELD.out _ (h.1.below hb)))
    have HKS := Lib.hid (fun (W : World) (b : Nat) (u0 u1 u2 u3 u4 : Value) (hge : w.heap.size + 3 ≤ b) (h : TB w FA fn FC VA vn VC 12 (some ad) n c nm v W ∧ THeld w FA fn FC VA vn VC ad n c p0 A0 n0 c0 m0 y0 W) => let hb := below_set5 (Below.refl (w.heap.size + 3) W) hge u0 u1 u2 u3 u4; And.intro (h.1.below3 hb) (HHELD.out _ (h.1.below3 hb)))
    go_enter Tryz.func256, Tryz.ntmps256
    go_upto_region 6 with fail
    generalize ((w.alloc (.cells #[.slice FA fn FC, .slice VA vn VC] 247)).alloc (.cells #[.int .i64 12, .slice (some ad) n c, .string nm, .int .i64 v.k, .int .i64 v.i, .bool v.b, .string v.s, .float .f64 v.n] 77)).alloc (.cells #[.int .i64 0, .int .i64 0, .bool false, .string { data := #[] }, .float .f64 0] 55) = wb at *
    go_cut [5] from 23 to 28 (fun s5 wx => ∃ b, s5 = .pointer (some ⟨b, 0, none⟩) ∧ w.heap.size + 3 ≤ b ∧ TB w FA fn FC VA vn VC 12 (some ad) n c nm v wx ∧ Bx wx b r1)
    case first =>
      have hS0 : TB w FA fn FC VA vn VC 12 (some ad) n c nm v wb.drew ∧ THeld w FA fn FC VA vn VC ad n c p0 A0 n0 c0 m0 y0 wb.drew := ⟨htb.below (Below.refl _ _).drew, HHELD.out _ (htb.below (Below.refl _ _).drew)⟩
      refine wp_region_held_drew (S := (fun W => TB w FA fn FC VA vn VC 12 (some ad) n c nm v W ∧ THeld w FA fn FC VA vn VC ad n c p0 A0 n0 c0 m0 y0 W)) (by kernel_rfl) (hS0) (fun hHeld => ?_)
      refine tk 0 ?_
      (try simp only [Act.put, sA, sB, sC])
      refine tk 1 ?_
      (try simp only [Act.put, sA, sB, sC])
      refine tk 2 ?_
      (try simp only [Act.put, sA, sB, sC])
      refine tk 3 ?_
      (try simp only [Act.put, sA, sB, sC])
      refine tk 4 ?_
      (try simp only [Act.put, sA, sB, sC])
      refine wpAnyH_ready (rs := [5, 6]) (by kernel_rfl) (by simp) ?_
      refine AllReadyH.cons (o := ?o44) ?g44 (fun K hK => ?j44) (AllReadyH.cons (o := ?o45) ?g45 (fun K hK => ?j45) AllReadyH.nil)
      case g44 => (simp only [gA, gB, gC]; rfl)
      case g45 => (simp only [gA, gB, gC]; rfl)
      · go_simp
        refine (H0.out _ (And.left (And.left hHeld))).mono ?_; rintro e wA ⟨rfl, hbA⟩; have hSA := HKP.out _ _ hHeld hbA
        refine hK.out _ _ ?_ (fun hHeld => ?_)
        · (try dsimp only); exact hSA
        clear hK K
        (try simp only [Act.put, sA, sB, sC])
        refine wpAnyH_ready (rs := [6]) (by kernel_rfl) (by simp) ?_
        refine AllReadyH.cons (o := ?o46) ?g46 (fun K hK => ?j46) AllReadyH.nil
        case g46 => (simp only [gA, gB, gC]; rfl)
        go_simp
        refine hK.out _ _ ?_ (fun hHeld => ?_)
        · (try dsimp only); exact HKP.out _ _ hSA (alloc1 _ _)
        clear hK K
        (try simp only [Act.put, sA, sB, sC])
        refine wpAnyH_ready (rs := [7]) (by kernel_rfl) (by simp) ?_
        refine AllReadyH.cons (o := ?o47) ?g47 (fun K hK => ?j47) AllReadyH.nil
        case g47 => (simp only [gA, gB, gC]; rfl)
        go_simp
        refine hK.out _ _ ?_ (fun hHeld => ?_)
        · (try dsimp only); exact HKP.out _ _ hSA (alloc1 _ _)
        clear hK K
        (try simp only [Act.put, sA, sB, sC])
        refine wpAnyH_done (by kernel_rfl) ?_ _
        go_wp2_with fail
        go_meet
        exact ⟨_, rfl, hSA.1.2.1, hHeld.1, Bx.new _ r1⟩
      · go_simp
        refine hK.out _ _ ?_ (fun hHeld => ?_)
        · (try dsimp only); exact HKP.out _ _ hS0 (alloc1 _ _)
        clear hK K
        (try simp only [Act.put, sA, sB, sC])
        refine wpAnyH_ready (rs := [5]) (by kernel_rfl) (by simp) ?_
        refine AllReadyH.cons (o := ?o48) ?g48 (fun K hK => ?j48) AllReadyH.nil
        case g48 => (simp only [gA, gB, gC]; rfl)
        go_simp
        refine (H0.out _ (And.left (And.left hHeld))).mono ?_; rintro e wA ⟨rfl, hbA⟩; have hSA := HKP.out _ _ hHeld hbA; obtain ⟨e0, e1, e2, e3, e4, ef⟩ := newcells hbA
        refine hK.out _ _ ?_ (fun hHeld => ?_)
        · (try dsimp only); exact hSA
        clear hK K
        (try simp only [Act.put, sA, sB, sC])
        refine wpAnyH_ready (rs := [7]) (by kernel_rfl) (by simp) ?_
        refine AllReadyH.cons (o := ?o49) ?g49 (fun K hK => ?j49) AllReadyH.nil
        case g49 => (simp only [gA, gB, gC]; rfl)
        go_simp
        refine hK.out _ _ ?_ (fun hHeld => ?_)
        · (try dsimp only); exact HKS.out _ _ _ _ _ _ _ htb.2.1 hSA
        clear hK K
        (try simp only [Act.put, sA, sB, sC])
        refine wpAnyH_done (by kernel_rfl) ?_ _
        go_wp2_with fail
        go_meet
        exact ⟨_, rfl, htb.2.1, hHeld.1, bx_set e0 e1 e2 e3 e4⟩
    case rest =>
      clear htb HHELD HKP HKS
      obtain ⟨b, rfl, hbge, hTB, hx0, hx1, hx2, hx3, hx4⟩ := hcut
      obtain ⟨d0, d1, d2, d3, d4, d5, d6, d7⟩ := hTB.2.2.2.2.1
      have g0 := hTB.2.2.1
      have g1 := hTB.2.2.2.1
      go_wp2_with (first
        | (go_at_call 270; refine (etruth_any _ _).mono ?_; rintro e w3 ⟨rfl, hb3⟩; have hT3 := hTB.below hb3; obtain ⟨ou0, ou1, ou2, ou3, ou4, ov0, ov1, ov2, ov3, ov4, ovf⟩ := TB.out hT3))
      exact bodyPost_ret (v := agV (vTruth (!r1.b))) (by simp [results, Tryz.results256, go_sem, ov0, ov1, ov2, ov3, ov4]) rfl ⟨rfl, TB.done hT3 _ _ _ _ _⟩
  · have h0 := fun W hb => (H0.out W hb).mono (fun e w' h => (⟨h.1.trans (if_neg hz), h.2⟩ : e = .panicked (PV r2) ∧ Below W.heap.size W w'))
    clear H0
    have H0 := Lib.hid h0
    have HZ := Lib.hid hz
    rw [if_pos hz]
    clear h0 hv0 hz
    have htb : TB w FA fn FC VA vn VC 12 (some ad) n c nm v (((w.alloc (.cells #[.slice FA fn FC, .slice VA vn VC] 247)).alloc (.cells #[.int .i64 12, .slice (some ad) n c, .string nm, .int .i64 v.k, .int .i64 v.i, .bool v.b, .string v.s, .float .f64 v.n] 77)).alloc (.cells #[.int .i64 0, .int .i64 0, .bool false, .string { data := #[] }, .float .f64 0] 55)) := TB_new w FA fn FC VA vn VC 12 (some ad) n c nm v
    have HHELD := Lib.hid (fun W (hb : TB w FA fn FC VA vn VC 12 (some ad) n c nm v W) => (show THeld w FA fn FC VA vn VC ad n c p0 A0 n0 c0 m0 y0 W from let q := hq0 W hb.1; ⟨hb.2.2.1, hb.2.2.2.1, hb.2.2.2.2.1.2.1, q.1, q.2.1, q.2.2.1, q.2.2.2.1, q.2.2.2.2.1, q.2.2.2.2.2.1, q.2.2.2.2.2.2.1, q.2.2.2.2.2.2.2⟩))
    clear hq0
    have HKP := Lib.hid (fun (W W' : World) (h : TB w FA fn FC VA vn VC 12 (some ad) n c nm v W ∧ THeld w FA fn FC VA vn VC ad n c p0 A0 n0 c0 m0 y0 W) (hb : Below W.heap.size W W') => And.intro (h.1.below hb) (HHELD.out _ (h.1.below hb)))
    have HKS := Lib.hid (fun (W : World) (b : Nat) (u0 u1 u2 u3 u4 : Value) (hge : w.heap.size + 3 ≤ b) (h : TB w FA fn FC VA vn VC 12 (some ad) n c nm v W ∧ THeld w FA fn FC VA vn VC ad n c p0 A0 n0 c0 m0 y0 W) => let hb := below_set5 (Below.refl (w.heap.size + 3) W) hge u0 u1 u2 u3 u4; And.intro (h.1.below3 hb) (HHELD.out _ (h.1.below3 hb)))
    go_enter Tryz.func256, Tryz.ntmps256
    go_upto_region 6 with fail
    generalize ((w.alloc (.cells #[.slice FA fn FC, .slice VA vn VC] 247)).alloc (.cells #[.int .i64 12, .slice (some ad) n c, .string nm, .int .i64 v.k, .int .i64 v.i, .bool v.b, .string v.s, .float .f64 v.n] 77)).alloc (.cells #[.int .i64 0, .int .i64 0, .bool false, .string { data := #[] }, .float .f64 0] 55) = wb at *
    have hS0 : TB w FA fn FC VA vn VC 12 (some ad) n c nm v wb.drew ∧ THeld w FA fn FC VA vn VC ad n c p0 A0 n0 c0 m0 y0 wb.drew := ⟨htb.below (Below.refl _ _).drew, HHELD.out _ (htb.below (Below.refl _ _).drew)⟩
    refine wp_region_held_drew (S := (fun W => TB w FA fn FC VA vn VC 12 (some ad) n c nm v W ∧ THeld w FA fn FC VA vn VC ad n c p0 A0 n0 c0 m0 y0 W)) (by kernel_rfl) (hS0) (fun hHeld => ?_)
    refine tk 0 ?_
    (try simp only [Act.put, sA, sB, sC])
    refine tk 1 ?_
    (try simp only [Act.put, sA, sB, sC])
    refine tk 2 ?_
    (try simp only [Act.put, sA, sB, sC])
    refine tk 3 ?_
    (try simp only [Act.put, sA, sB, sC])
    refine tk 4 ?_
    (try simp only [Act.put, sA, sB, sC])
    refine wpAnyH_ready (rs := [5, 6]) (by kernel_rfl) (by simp) ?_
    refine AllReadyH.cons (o := ?o55) ?g55 (fun K hK => ?j55) (AllReadyH.cons (o := ?o56) ?g56 (fun K hK => ?j56) AllReadyH.nil)
    case g55 => (simp only [gA, gB, gC]; rfl)
    case g56 => (simp only [gA, gB, gC]; rfl)
    · go_simp
      refine (H0.out _ (And.left (And.left hHeld))).mono ?_; rintro e wA ⟨rfl, hbA⟩
      exact ⟨rfl, (if_neg HZ.out).symm, (And.left (And.left hHeld)).trans (hbA.mono (And.left (And.left hHeld)).size)⟩
    · go_simp
      refine hK.out _ _ ?_ (fun hHeld => ?_)
      · (try dsimp only); exact HKP.out _ _ hS0 (alloc1 _ _)
      clear hK K
      (try simp only [Act.put, sA, sB, sC])
      refine wpAnyH_ready (rs := [5]) (by kernel_rfl) (by simp) ?_
      refine AllReadyH.cons (o := ?o57) ?g57 (fun K hK => ?j57) AllReadyH.nil
      case g57 => (simp only [gA, gB, gC]; rfl)
      go_simp
      refine (H0.out _ (And.left (And.left hHeld))).mono ?_; rintro e wA ⟨rfl, hbA⟩
      exact ⟨rfl, (if_neg HZ.out).symm, (And.left (And.left hHeld)).trans (hbA.mono (And.left (And.left hHeld)).size)⟩

set_option maxHeartbeats 600000 in
theorem tell_13 (FA : Option Addr) (fn FC : Nat) (VA : Option Addr) (vn VC : Nat) (ad : Addr) (n c : Nat) (nm : ByteArray) (v : Vl) (w : World) (A0 : Option Addr) (n0 c0 : Nat) (m0 : ByteArray) (y0 : Vl) (p0 : Int) (R0 : Vl × Int) (hq0 : ∀ W, Below w.heap.size w W → Kid W ad p0 A0 n0 c0 m0 y0) (h0 : ∀ W, Below w.heap.size w W → Calls Tryz.prog 256 #[agR FA fn FC VA vn VC, agX p0 A0 n0 c0 m0 y0] W (TellP R0 W)) (hv0 : R0.2 = 0 → okV R0.1) (A1 : Option Addr) (n1 c1 : Nat) (m1 : ByteArray) (y1 : Vl) (p1 : Int) (R1 : Vl × Int) (hq1 : ∀ W, Below w.heap.size w W → Kid W ⟨ad.block, ad.off + 8, none⟩ p1 A1 n1 c1 m1 y1) (h1 : ∀ W, Below w.heap.size w W → Calls Tryz.prog 256 #[agR FA fn FC VA vn VC, agX p1 A1 n1 c1 m1 y1] W (TellP R1 W)) (hv1 : R1.2 = 0 → okV R1.1) (A2 : Option Addr) (n2 c2 : Nat) (m2 : ByteArray) (y2 : Vl) (p2 : Int) (R2 : Vl × Int) (hq2 : ∀ W, Below w.heap.size w W → Kid W ⟨ad.block, ad.off + 16, none⟩ p2 A2 n2 c2 m2 y2) (h2 : ∀ W, Below w.heap.size w W → Calls Tryz.prog 256 #[agR FA fn FC VA vn VC, agX p2 A2 n2 c2 m2 y2] W (TellP R2 W)) (hv2 : R2.2 = 0 → okV R2.1) (hn : 2 < n) :
    Calls Tryz.prog 256 #[agR FA fn FC VA vn VC, agX 13 (some ad) n c nm v] w (TellP (if R0.2 ≠ 0 then (vZero, R0.2) else (if R0.1.b = true then R1 else R2)) w) := by
  have hi1 : (1 : Int) < (n : Int) := by omega
  have hn1 : 1 < n := by omega
  have hi2 : (2 : Int) < (n : Int) := by omega
  have hsf := fun (w : World) (a : Addr) (m : Mode) (b : Nat) => run_store Tryz.prog w a (.float .f64 b) m rfl
  have hi : (0 : Int) < (n : Int) := by omega
  have hn0 : 0 < n := by omega
  have HQ1 := Lib.hid hq1
  have H1 := Lib.hid h1
  clear hq1 h1 hv1
  have HQ2 := Lib.hid hq2
  have H2 := Lib.hid h2
  clear hq2 h2 hv2
  obtain ⟨r1, r2⟩ := R0
  have H0 := Lib.hid h0
  clear h0
  by_cases hz : r2 = 0
  · subst hz
    rw [if_neg (fun h => h rfl)]
    have h0 := fun W hb => (H0.out W hb).mono (fun e w' h => (⟨h.1.trans (if_pos rfl), h.2⟩ : e = .returned (agV r1) ∧ Below W.heap.size W w'))
    clear H0
    have H0 := Lib.hid h0
    clear h0 hv0
    rcases hb : r1.b with _ | _
    · rw [if_neg (by decide)]
      have HBB := Lib.hid hb
      clear hb
      have htb : TB w FA fn FC VA vn VC 13 (some ad) n c nm v (((w.alloc (.cells #[.slice FA fn FC, .slice VA vn VC] 247)).alloc (.cells #[.int .i64 13, .slice (some ad) n c, .string nm, .int .i64 v.k, .int .i64 v.i, .bool v.b, .string v.s, .float .f64 v.n] 77)).alloc (.cells #[.int .i64 0, .int .i64 0, .bool false, .string { data := #[] }, .float .f64 0] 55)) := TB_new w FA fn FC VA vn VC 13 (some ad) n c nm v
      have HHELD := Lib.hid (fun W (hb : TB w FA fn FC VA vn VC 13 (some ad) n c nm v W) => (show THeld w FA fn FC VA vn VC ad n c p0 A0 n0 c0 m0 y0 W from let q := hq0 W hb.1; ⟨hb.2.2.1, hb.2.2.2.1, hb.2.2.2.2.1.2.1, q.1, q.2.1, q.2.2.1, q.2.2.2.1, q.2.2.2.2.1, q.2.2.2.2.2.1, q.2.2.2.2.2.2.1, q.2.2.2.2.2.2.2⟩))
      clear hq0
      have HKP := Lib.hid (fun (W W' : World) (h : TB w FA fn FC VA vn VC 13 (some ad) n c nm v W ∧ THeld w FA fn FC VA vn VC ad n c p0 A0 n0 c0 m0 y0 W) (hb : Below W.heap.size W W') => And.intro (h.1.below hb) (HHELD.out _ (h.1.below hb)))
      have HKS := Lib.hid (fun (W : World) (b : Nat) (u0 u1 u2 u3 u4 : Value) (hge : w.heap.size + 3 ≤ b) (h : TB w FA fn FC VA vn VC 13 (some ad) n c nm v W ∧ THeld w FA fn FC VA vn VC ad n c p0 A0 n0 c0 m0 y0 W) => let hb := below_set5 (Below.refl (w.heap.size + 3) W) hge u0 u1 u2 u3 u4; And.intro (h.1.below3 hb) (HHELD.out _ (h.1.below3 hb)))
      go_enter Tryz.func256, Tryz.ntmps256
      go_upto_region 6 with fail
      generalize ((w.alloc (.cells #[.slice FA fn FC, .slice VA vn VC] 247)).alloc (.cells #[.int .i64 13, .slice (some ad) n c, .string nm, .int .i64 v.k, .int .i64 v.i, .bool v.b, .string v.s, .float .f64 v.n] 77)).alloc (.cells #[.int .i64 0, .int .i64 0, .bool false, .string { data := #[] }, .float .f64 0] 55) = wb at *
      go_cut [5] from 23 to 28 (fun s5 wx => ∃ b, s5 = .pointer (some ⟨b, 0, none⟩) ∧ w.heap.size + 3 ≤ b ∧ TB w FA fn FC VA vn VC 13 (some ad) n c nm v wx ∧ Bx wx b r1)
      case first =>
        have hS0 : TB w FA fn FC VA vn VC 13 (some ad) n c nm v wb.drew ∧ THeld w FA fn FC VA vn VC ad n c p0 A0 n0 c0 m0 y0 wb.drew := ⟨htb.below (Below.refl _ _).drew, HHELD.out _ (htb.below (Below.refl _ _).drew)⟩
        refine wp_region_held_drew (S := (fun W => TB w FA fn FC VA vn VC 13 (some ad) n c nm v W ∧ THeld w FA fn FC VA vn VC ad n c p0 A0 n0 c0 m0 y0 W)) (by kernel_rfl) (hS0) (fun hHeld => ?_)
        refine tk 0 ?_
        (try simp only [Act.put, sA, sB, sC])
        refine tk 1 ?_
        (try simp only [Act.put, sA, sB, sC])
        refine tk 2 ?_
        (try simp only [Act.put, sA, sB, sC])
        refine tk 3 ?_
        (try simp only [Act.put, sA, sB, sC])
        refine tk 4 ?_
        (try simp only [Act.put, sA, sB, sC])
        refine wpAnyH_ready (rs := [5, 6]) (by kernel_rfl) (by simp) ?_
        refine AllReadyH.cons (o := ?o175) ?g175 (fun K hK => ?j175) (AllReadyH.cons (o := ?o176) ?g176 (fun K hK => ?j176) AllReadyH.nil)
        case g175 => (simp only [gA, gB, gC]; rfl)
        case g176 => (simp only [gA, gB, gC]; rfl)
        · go_simp
          refine (H0.out _ (And.left (And.left hHeld))).mono ?_; rintro e wA ⟨rfl, hbA⟩; have hSA := HKP.out _ _ hHeld hbA
          refine hK.out _ _ ?_ (fun hHeld => ?_)
          · (try dsimp only); exact hSA
          clear hK K
          (try simp only [Act.put, sA, sB, sC])
          refine wpAnyH_ready (rs := [6]) (by kernel_rfl) (by simp) ?_
          refine AllReadyH.cons (o := ?o177) ?g177 (fun K hK => ?j177) AllReadyH.nil
          case g177 => (simp only [gA, gB, gC]; rfl)
          go_simp
          refine hK.out _ _ ?_ (fun hHeld => ?_)
          · (try dsimp only); exact HKP.out _ _ hSA (alloc1 _ _)
          clear hK K
          (try simp only [Act.put, sA, sB, sC])
          refine wpAnyH_ready (rs := [7]) (by kernel_rfl) (by simp) ?_
          refine AllReadyH.cons (o := ?o178) ?g178 (fun K hK => ?j178) AllReadyH.nil
          case g178 => (simp only [gA, gB, gC]; rfl)
          go_simp
          refine hK.out _ _ ?_ (fun hHeld => ?_)
          · (try dsimp only); exact HKP.out _ _ hSA (alloc1 _ _)
          clear hK K
          (try simp only [Act.put, sA, sB, sC])
          refine wpAnyH_done (by kernel_rfl) ?_ _
          go_wp2_with fail
          go_meet
          exact ⟨_, rfl, hSA.1.2.1, hHeld.1, Bx.new _ r1⟩
        · go_simp
          refine hK.out _ _ ?_ (fun hHeld => ?_)
          · (try dsimp only); exact HKP.out _ _ hS0 (alloc1 _ _)
          clear hK K
          (try simp only [Act.put, sA, sB, sC])
          refine wpAnyH_ready (rs := [5]) (by kernel_rfl) (by simp) ?_
          refine AllReadyH.cons (o := ?o179) ?g179 (fun K hK => ?j179) AllReadyH.nil
          case g179 => (simp only [gA, gB, gC]; rfl)
          go_simp
          refine (H0.out _ (And.left (And.left hHeld))).mono ?_; rintro e wA ⟨rfl, hbA⟩; have hSA := HKP.out _ _ hHeld hbA; obtain ⟨e0, e1, e2, e3, e4, ef⟩ := newcells hbA
          refine hK.out _ _ ?_ (fun hHeld => ?_)
          · (try dsimp only); exact hSA
          clear hK K
          (try simp only [Act.put, sA, sB, sC])
          refine wpAnyH_ready (rs := [7]) (by kernel_rfl) (by simp) ?_
          refine AllReadyH.cons (o := ?o180) ?g180 (fun K hK => ?j180) AllReadyH.nil
          case g180 => (simp only [gA, gB, gC]; rfl)
          go_simp
          refine hK.out _ _ ?_ (fun hHeld => ?_)
          · (try dsimp only); exact HKS.out _ _ _ _ _ _ _ htb.2.1 hSA
          clear hK K
          (try simp only [Act.put, sA, sB, sC])
          refine wpAnyH_done (by kernel_rfl) ?_ _
          go_wp2_with fail
          go_meet
          exact ⟨_, rfl, htb.2.1, hHeld.1, bx_set e0 e1 e2 e3 e4⟩
      case rest =>
        clear htb HHELD HKP HKS
        obtain ⟨b, rfl, hbge, hTB, hx0, hx1, hx2, hx3, hx4⟩ := hcut
        obtain ⟨d0, d1, d2, d3, d4, d5, d6, d7⟩ := hTB.2.2.2.2.1
        have g0 := hTB.2.2.1
        have g1 := hTB.2.2.2.1
        have hb := HBB.out
        rw [hb] at hx2
        clear hb
        obtain ⟨s1, s2⟩ := R2
        by_cases hz2 : s2 = 0
        · subst hz2
          have h2 := fun W hb => (H2.out W hb).mono (fun e w' h => (⟨h.1.trans (if_pos rfl), h.2⟩ : e = .returned (agV s1) ∧ Below W.heap.size W w'))
          clear H2
          have H2 := Lib.hid h2
          clear h2
          have HT := Lib.hid (fun W (hb : TC w FA fn FC VA vn VC 13 (some ad) n c nm v W) => (show THeldK w FA fn FC VA vn VC 13 ad n c ⟨ad.block, ad.off + 16, none⟩ p2 A2 n2 c2 m2 y2 W from let q := HQ2.out W hb.1; ⟨hb.2.2.1, hb.2.2.2.1, hb.2.2.2.2.1, hb.2.2.2.2.2.1, q.1, q.2.1, q.2.2.1, q.2.2.2.1, q.2.2.2.2.1, q.2.2.2.2.2.1, q.2.2.2.2.2.2.1, q.2.2.2.2.2.2.2⟩))
          have HK1 := Lib.hid (fun (W W' : World) (h : (TC w FA fn FC VA vn VC 13 (some ad) n c nm v W ∧ THeldK w FA fn FC VA vn VC 13 ad n c ⟨ad.block, ad.off + 16, none⟩ p2 A2 n2 c2 m2 y2 W)) (hb : Below W.heap.size W W') => (show (TC w FA fn FC VA vn VC 13 (some ad) n c nm v W' ∧ THeldK w FA fn FC VA vn VC 13 ad n c ⟨ad.block, ad.off + 16, none⟩ p2 A2 n2 c2 m2 y2 W') from ⟨h.1.below2 (hb.mono h.1.2.1), HT.out _ (h.1.below2 (hb.mono h.1.2.1))⟩))
          have HKZ := Lib.hid (fun (W : World) (u0 u1 u2 u3 u4 : Value) (h : (TC w FA fn FC VA vn VC 13 (some ad) n c nm v W ∧ THeldK w FA fn FC VA vn VC 13 ad n c ⟨ad.block, ad.off + 16, none⟩ p2 A2 n2 c2 m2 y2 W)) => let hb := below_set5 (Below.refl (w.heap.size + 2) W) (show w.heap.size + 2 ≤ w.heap.size + 1 + 1 by omega) u0 u1 u2 u3 u4; (show (TC w FA fn FC VA vn VC 13 (some ad) n c nm v (((((W.setCell ⟨w.heap.size + 1 + 1, 0, none⟩ u0).setCell ⟨w.heap.size + 1 + 1, 1, none⟩ u1).setCell ⟨w.heap.size + 1 + 1, 2, none⟩ u2).setCell ⟨w.heap.size + 1 + 1, 3, none⟩ u3).setCell ⟨w.heap.size + 1 + 1, 4, none⟩ u4) ∧ THeldK w FA fn FC VA vn VC 13 ad n c ⟨ad.block, ad.off + 16, none⟩ p2 A2 n2 c2 m2 y2 (((((W.setCell ⟨w.heap.size + 1 + 1, 0, none⟩ u0).setCell ⟨w.heap.size + 1 + 1, 1, none⟩ u1).setCell ⟨w.heap.size + 1 + 1, 2, none⟩ u2).setCell ⟨w.heap.size + 1 + 1, 3, none⟩ u3).setCell ⟨w.heap.size + 1 + 1, 4, none⟩ u4)) from ⟨h.1.below2 hb, HT.out _ (h.1.below2 hb)⟩))
          have hS1 : (fun W => (TC w FA fn FC VA vn VC 13 (some ad) n c nm v W ∧ THeldK w FA fn FC VA vn VC 13 ad n c ⟨ad.block, ad.off + 16, none⟩ p2 A2 n2 c2 m2 y2 W)) wc.drew := ⟨hTB.tc.below2 (Below.refl _ _).drew, HT.out _ (hTB.tc.below2 (Below.refl _ _).drew)⟩
          have HTB := Lib.hid hTB
          go_wp2_with fail
          refine wp_region_held_drew (S := (fun W => (TC w FA fn FC VA vn VC 13 (some ad) n c nm v W ∧ THeldK w FA fn FC VA vn VC 13 ad n c ⟨ad.block, ad.off + 16, none⟩ p2 A2 n2 c2 m2 y2 W))) (by kernel_rfl) (hS1) (fun hHeld => ?_)
          refine tk 0 ?_
          (try simp only [Act.put, sA, sB, sC])
          refine tk 1 ?_
          (try simp only [Act.put, sA, sB, sC])
          refine tk 2 ?_
          (try simp only [Act.put, sA, sB, sC])
          refine tk 3 ?_
          (try simp only [Act.put, sA, sB, sC])
          refine tk 4 ?_
          (try simp only [Act.put, sA, sB, sC])
          refine wpAnyH_ready (rs := [5]) (by kernel_rfl) (by simp) ?_
          refine AllReadyH.cons (o := ?o149) ?g149 (fun K hK => ?j149) AllReadyH.nil
          case g149 => (simp only [gA, gB, gC]; rfl)
          go_simp
          refine (H2.out _ hHeld.1.1).mono ?_; rintro e w2 ⟨rfl, hb2⟩; obtain ⟨ou0, ou1, ou2, ou3, ou4, ov0, ov1, ov2, ov3, ov4, ovf⟩ := TB.out ((HTB.out.below (Below.refl _ _).drew).below hb2)
          refine hK.out _ _ ?_ (fun hHeld => ?_)
          · (try dsimp only); exact HK1.out _ _ hHeld hb2
          clear hK K
          (try simp only [Act.put, sA, sB, sC])
          refine wpAnyH_ready (rs := [6]) (by kernel_rfl) (by simp) ?_
          refine AllReadyH.cons (o := ?o150) ?g150 (fun K hK => ?j150) AllReadyH.nil
          case g150 => (simp only [gA, gB, gC]; rfl)
          go_simp
          refine hK.out _ _ ?_ (fun hHeld => ?_)
          · (try dsimp only); exact HKZ.out _ _ _ _ _ _ hHeld
          clear hK K
          (try simp only [Act.put, sA, sB, sC])
          refine wpAnyH_done (by kernel_rfl) ?_ _
          go_wp2_with fail
          exact bodyPost_ret (v := agV s1) (by simp [results, Tryz.results256, go_sem, ov0, ov1, ov2, ov3, ov4]) rfl ⟨rfl, TB.done ((HTB.out.below (Below.refl _ _).drew).below hb2) _ _ _ _ _⟩
        · have h2 := fun W hb => (H2.out W hb).mono (fun e w' h => (⟨h.1.trans (if_neg hz2), h.2⟩ : e = .panicked (PV s2) ∧ Below W.heap.size W w'))
          clear H2
          have H2 := Lib.hid h2
          have HZ2 := Lib.hid hz2
          clear h2 hz2
          have HT := Lib.hid (fun W (hb : TC w FA fn FC VA vn VC 13 (some ad) n c nm v W) => (show THeldK w FA fn FC VA vn VC 13 ad n c ⟨ad.block, ad.off + 16, none⟩ p2 A2 n2 c2 m2 y2 W from let q := HQ2.out W hb.1; ⟨hb.2.2.1, hb.2.2.2.1, hb.2.2.2.2.1, hb.2.2.2.2.2.1, q.1, q.2.1, q.2.2.1, q.2.2.2.1, q.2.2.2.2.1, q.2.2.2.2.2.1, q.2.2.2.2.2.2.1, q.2.2.2.2.2.2.2⟩))
          have HK1 := Lib.hid (fun (W W' : World) (h : (TC w FA fn FC VA vn VC 13 (some ad) n c nm v W ∧ THeldK w FA fn FC VA vn VC 13 ad n c ⟨ad.block, ad.off + 16, none⟩ p2 A2 n2 c2 m2 y2 W)) (hb : Below W.heap.size W W') => (show (TC w FA fn FC VA vn VC 13 (some ad) n c nm v W' ∧ THeldK w FA fn FC VA vn VC 13 ad n c ⟨ad.block, ad.off + 16, none⟩ p2 A2 n2 c2 m2 y2 W') from ⟨h.1.below2 (hb.mono h.1.2.1), HT.out _ (h.1.below2 (hb.mono h.1.2.1))⟩))
          have HKZ := Lib.hid (fun (W : World) (u0 u1 u2 u3 u4 : Value) (h : (TC w FA fn FC VA vn VC 13 (some ad) n c nm v W ∧ THeldK w FA fn FC VA vn VC 13 ad n c ⟨ad.block, ad.off + 16, none⟩ p2 A2 n2 c2 m2 y2 W)) => let hb := below_set5 (Below.refl (w.heap.size + 2) W) (show w.heap.size + 2 ≤ w.heap.size + 1 + 1 by omega) u0 u1 u2 u3 u4; (show (TC w FA fn FC VA vn VC 13 (some ad) n c nm v (((((W.setCell ⟨w.heap.size + 1 + 1, 0, none⟩ u0).setCell ⟨w.heap.size + 1 + 1, 1, none⟩ u1).setCell ⟨w.heap.size + 1 + 1, 2, none⟩ u2).setCell ⟨w.heap.size + 1 + 1, 3, none⟩ u3).setCell ⟨w.heap.size + 1 + 1, 4, none⟩ u4) ∧ THeldK w FA fn FC VA vn VC 13 ad n c ⟨ad.block, ad.off + 16, none⟩ p2 A2 n2 c2 m2 y2 (((((W.setCell ⟨w.heap.size + 1 + 1, 0, none⟩ u0).setCell ⟨w.heap.size + 1 + 1, 1, none⟩ u1).setCell ⟨w.heap.size + 1 + 1, 2, none⟩ u2).setCell ⟨w.heap.size + 1 + 1, 3, none⟩ u3).setCell ⟨w.heap.size + 1 + 1, 4, none⟩ u4)) from ⟨h.1.below2 hb, HT.out _ (h.1.below2 hb)⟩))
          have hS1 : (fun W => (TC w FA fn FC VA vn VC 13 (some ad) n c nm v W ∧ THeldK w FA fn FC VA vn VC 13 ad n c ⟨ad.block, ad.off + 16, none⟩ p2 A2 n2 c2 m2 y2 W)) wc.drew := ⟨hTB.tc.below2 (Below.refl _ _).drew, HT.out _ (hTB.tc.below2 (Below.refl _ _).drew)⟩
          have HTB := Lib.hid hTB
          go_wp2_with fail
          refine wp_region_held_drew (S := (fun W => (TC w FA fn FC VA vn VC 13 (some ad) n c nm v W ∧ THeldK w FA fn FC VA vn VC 13 ad n c ⟨ad.block, ad.off + 16, none⟩ p2 A2 n2 c2 m2 y2 W))) (by kernel_rfl) (hS1) (fun hHeld => ?_)
          refine tk 0 ?_
          (try simp only [Act.put, sA, sB, sC])
          refine tk 1 ?_
          (try simp only [Act.put, sA, sB, sC])
          refine tk 2 ?_
          (try simp only [Act.put, sA, sB, sC])
          refine tk 3 ?_
          (try simp only [Act.put, sA, sB, sC])
          refine tk 4 ?_
          (try simp only [Act.put, sA, sB, sC])
          refine wpAnyH_ready (rs := [5]) (by kernel_rfl) (by simp) ?_
          refine AllReadyH.cons (o := ?o156) ?g156 (fun K hK => ?j156) AllReadyH.nil
          case g156 => (simp only [gA, gB, gC]; rfl)
          go_simp
          refine (H2.out _ hHeld.1.1).mono ?_; rintro e w2 ⟨rfl, hb2⟩
          exact ⟨rfl, (if_neg HZ2.out).symm, ((HTB.out.below (Below.refl _ _).drew).below hb2).1⟩
    · rw [if_pos rfl]
      have HBB := Lib.hid hb
      clear hb
      have htb : TB w FA fn FC VA vn VC 13 (some ad) n c nm v (((w.alloc (.cells #[.slice FA fn FC, .slice VA vn VC] 247)).alloc (.cells #[.int .i64 13, .slice (some ad) n c, .string nm, .int .i64 v.k, .int .i64 v.i, .bool v.b, .string v.s, .float .f64 v.n] 77)).alloc (.cells #[.int .i64 0, .int .i64 0, .bool false, .string { data := #[] }, .float .f64 0] 55)) := TB_new w FA fn FC VA vn VC 13 (some ad) n c nm v
      have HHELD := Lib.hid (fun W (hb : TB w FA fn FC VA vn VC 13 (some ad) n c nm v W) => (show THeld w FA fn FC VA vn VC ad n c p0 A0 n0 c0 m0 y0 W from let q := hq0 W hb.1; ⟨hb.2.2.1, hb.2.2.2.1, hb.2.2.2.2.1.2.1, q.1, q.2.1, q.2.2.1, q.2.2.2.1, q.2.2.2.2.1, q.2.2.2.2.2.1, q.2.2.2.2.2.2.1, q.2.2.2.2.2.2.2⟩))
      clear hq0
      have HKP := Lib.hid (fun (W W' : World) (h : TB w FA fn FC VA vn VC 13 (some ad) n c nm v W ∧ THeld w FA fn FC VA vn VC ad n c p0 A0 n0 c0 m0 y0 W) (hb : Below W.heap.size W W') => And.intro (h.1.below hb) (HHELD.out _ (h.1.below hb)))
      have HKS := Lib.hid (fun (W : World) (b : Nat) (u0 u1 u2 u3 u4 : Value) (hge : w.heap.size + 3 ≤ b) (h : TB w FA fn FC VA vn VC 13 (some ad) n c nm v W ∧ THeld w FA fn FC VA vn VC ad n c p0 A0 n0 c0 m0 y0 W) => let hb := below_set5 (Below.refl (w.heap.size + 3) W) hge u0 u1 u2 u3 u4; And.intro (h.1.below3 hb) (HHELD.out _ (h.1.below3 hb)))
      go_enter Tryz.func256, Tryz.ntmps256
      go_upto_region 6 with fail
      generalize ((w.alloc (.cells #[.slice FA fn FC, .slice VA vn VC] 247)).alloc (.cells #[.int .i64 13, .slice (some ad) n c, .string nm, .int .i64 v.k, .int .i64 v.i, .bool v.b, .string v.s, .float .f64 v.n] 77)).alloc (.cells #[.int .i64 0, .int .i64 0, .bool false, .string { data := #[] }, .float .f64 0] 55) = wb at *
      go_cut [5] from 23 to 28 (fun s5 wx => ∃ b, s5 = .pointer (some ⟨b, 0, none⟩) ∧ w.heap.size + 3 ≤ b ∧ TB w FA fn FC VA vn VC 13 (some ad) n c nm v wx ∧ Bx wx b r1)
      case first =>
        have hS0 : TB w FA fn FC VA vn VC 13 (some ad) n c nm v wb.drew ∧ THeld w FA fn FC VA vn VC ad n c p0 A0 n0 c0 m0 y0 wb.drew := ⟨htb.below (Below.refl _ _).drew, HHELD.out _ (htb.below (Below.refl _ _).drew)⟩
        refine wp_region_held_drew (S := (fun W => TB w FA fn FC VA vn VC 13 (some ad) n c nm v W ∧ THeld w FA fn FC VA vn VC ad n c p0 A0 n0 c0 m0 y0 W)) (by kernel_rfl) (hS0) (fun hHeld => ?_)
        refine tk 0 ?_
        (try simp only [Act.put, sA, sB, sC])
        refine tk 1 ?_
        (try simp only [Act.put, sA, sB, sC])
        refine tk 2 ?_
        (try simp only [Act.put, sA, sB, sC])
        refine tk 3 ?_
        (try simp only [Act.put, sA, sB, sC])
        refine tk 4 ?_
        (try simp only [Act.put, sA, sB, sC])
        refine wpAnyH_ready (rs := [5, 6]) (by kernel_rfl) (by simp) ?_
        refine AllReadyH.cons (o := ?o186) ?g186 (fun K hK => ?j186) (AllReadyH.cons (o := ?o187) ?g187 (fun K hK => ?j187) AllReadyH.nil)
        case g186 => (simp only [gA, gB, gC]; rfl)
        case g187 => (simp only [gA, gB, gC]; rfl)
        · go_simp
          refine (H0.out _ (And.left (And.left hHeld))).mono ?_; rintro e wA ⟨rfl, hbA⟩; have hSA := HKP.out _ _ hHeld hbA
          refine hK.out _ _ ?_ (fun hHeld => ?_)
          · (try dsimp only); exact hSA
          clear hK K
          (try simp only [Act.put, sA, sB, sC])
          refine wpAnyH_ready (rs := [6]) (by kernel_rfl) (by simp) ?_
          refine AllReadyH.cons (o := ?o188) ?g188 (fun K hK => ?j188) AllReadyH.nil
          case g188 => (simp only [gA, gB, gC]; rfl)
          go_simp
          refine hK.out _ _ ?_ (fun hHeld => ?_)
          · (try dsimp only); exact HKP.out _ _ hSA (alloc1 _ _)
          clear hK K
          (try simp only [Act.put, sA, sB, sC])
          refine wpAnyH_ready (rs := [7]) (by kernel_rfl) (by simp) ?_
          refine AllReadyH.cons (o := ?o189) ?g189 (fun K hK => ?j189) AllReadyH.nil
          case g189 => (simp only [gA, gB, gC]; rfl)
          go_simp
          refine hK.out _ _ ?_ (fun hHeld => ?_)
          · (try dsimp only); exact HKP.out _ _ hSA (alloc1 _ _)
          clear hK K
          (try simp only [Act.put, sA, sB, sC])
          refine wpAnyH_done (by kernel_rfl) ?_ _
          go_wp2_with fail
          go_meet
          exact ⟨_, rfl, hSA.1.2.1, hHeld.1, Bx.new _ r1⟩
        · go_simp
          refine hK.out _ _ ?_ (fun hHeld => ?_)
          · (try dsimp only); exact HKP.out _ _ hS0 (alloc1 _ _)
          clear hK K
          (try simp only [Act.put, sA, sB, sC])
          refine wpAnyH_ready (rs := [5]) (by kernel_rfl) (by simp) ?_
          refine AllReadyH.cons (o := ?o190) ?g190 (fun K hK => ?j190) AllReadyH.nil
          case g190 => (simp only [gA, gB, gC]; rfl)
          go_simp
          refine (H0.out _ (And.left (And.left hHeld))).mono ?_; rintro e wA ⟨rfl, hbA⟩; have hSA := HKP.out _ _ hHeld hbA; obtain ⟨e0, e1, e2, e3, e4, ef⟩ := newcells hbA
          refine hK.out _ _ ?_ (fun hHeld => ?_)
          · (try dsimp only); exact hSA
          clear hK K
          (try simp only [Act.put, sA, sB, sC])
          refine wpAnyH_ready (rs := [7]) (by kernel_rfl) (by simp) ?_
          refine AllReadyH.cons (o := ?o191) ?g191 (fun K hK => ?j191) AllReadyH.nil
          case g191 => (simp only [gA, gB, gC]; rfl)
          go_simp
          refine hK.out _ _ ?_ (fun hHeld => ?_)
          · (try dsimp only); exact HKS.out _ _ _ _ _ _ _ htb.2.1 hSA
          clear hK K
          (try simp only [Act.put, sA, sB, sC])
          refine wpAnyH_done (by kernel_rfl) ?_ _
          go_wp2_with fail
          go_meet
          exact ⟨_, rfl, htb.2.1, hHeld.1, bx_set e0 e1 e2 e3 e4⟩
      case rest =>
        clear htb HHELD HKP HKS
        obtain ⟨b, rfl, hbge, hTB, hx0, hx1, hx2, hx3, hx4⟩ := hcut
        obtain ⟨d0, d1, d2, d3, d4, d5, d6, d7⟩ := hTB.2.2.2.2.1
        have g0 := hTB.2.2.1
        have g1 := hTB.2.2.2.1
        have hb := HBB.out
        rw [hb] at hx2
        clear hb
        obtain ⟨s1, s2⟩ := R1
        by_cases hz1 : s2 = 0
        · subst hz1
          have h1 := fun W hb => (H1.out W hb).mono (fun e w' h => (⟨h.1.trans (if_pos rfl), h.2⟩ : e = .returned (agV s1) ∧ Below W.heap.size W w'))
          clear H1
          have H1 := Lib.hid h1
          clear h1
          have HT := Lib.hid (fun W (hb : TC w FA fn FC VA vn VC 13 (some ad) n c nm v W) => (show THeldK w FA fn FC VA vn VC 13 ad n c ⟨ad.block, ad.off + 8, none⟩ p1 A1 n1 c1 m1 y1 W from let q := HQ1.out W hb.1; ⟨hb.2.2.1, hb.2.2.2.1, hb.2.2.2.2.1, hb.2.2.2.2.2.1, q.1, q.2.1, q.2.2.1, q.2.2.2.1, q.2.2.2.2.1, q.2.2.2.2.2.1, q.2.2.2.2.2.2.1, q.2.2.2.2.2.2.2⟩))
          have HK1 := Lib.hid (fun (W W' : World) (h : (TC w FA fn FC VA vn VC 13 (some ad) n c nm v W ∧ THeldK w FA fn FC VA vn VC 13 ad n c ⟨ad.block, ad.off + 8, none⟩ p1 A1 n1 c1 m1 y1 W)) (hb : Below W.heap.size W W') => (show (TC w FA fn FC VA vn VC 13 (some ad) n c nm v W' ∧ THeldK w FA fn FC VA vn VC 13 ad n c ⟨ad.block, ad.off + 8, none⟩ p1 A1 n1 c1 m1 y1 W') from ⟨h.1.below2 (hb.mono h.1.2.1), HT.out _ (h.1.below2 (hb.mono h.1.2.1))⟩))
          have HKZ := Lib.hid (fun (W : World) (u0 u1 u2 u3 u4 : Value) (h : (TC w FA fn FC VA vn VC 13 (some ad) n c nm v W ∧ THeldK w FA fn FC VA vn VC 13 ad n c ⟨ad.block, ad.off + 8, none⟩ p1 A1 n1 c1 m1 y1 W)) => let hb := below_set5 (Below.refl (w.heap.size + 2) W) (show w.heap.size + 2 ≤ w.heap.size + 1 + 1 by omega) u0 u1 u2 u3 u4; (show (TC w FA fn FC VA vn VC 13 (some ad) n c nm v (((((W.setCell ⟨w.heap.size + 1 + 1, 0, none⟩ u0).setCell ⟨w.heap.size + 1 + 1, 1, none⟩ u1).setCell ⟨w.heap.size + 1 + 1, 2, none⟩ u2).setCell ⟨w.heap.size + 1 + 1, 3, none⟩ u3).setCell ⟨w.heap.size + 1 + 1, 4, none⟩ u4) ∧ THeldK w FA fn FC VA vn VC 13 ad n c ⟨ad.block, ad.off + 8, none⟩ p1 A1 n1 c1 m1 y1 (((((W.setCell ⟨w.heap.size + 1 + 1, 0, none⟩ u0).setCell ⟨w.heap.size + 1 + 1, 1, none⟩ u1).setCell ⟨w.heap.size + 1 + 1, 2, none⟩ u2).setCell ⟨w.heap.size + 1 + 1, 3, none⟩ u3).setCell ⟨w.heap.size + 1 + 1, 4, none⟩ u4)) from ⟨h.1.below2 hb, HT.out _ (h.1.below2 hb)⟩))
          have hS1 : (fun W => (TC w FA fn FC VA vn VC 13 (some ad) n c nm v W ∧ THeldK w FA fn FC VA vn VC 13 ad n c ⟨ad.block, ad.off + 8, none⟩ p1 A1 n1 c1 m1 y1 W)) wc.drew := ⟨hTB.tc.below2 (Below.refl _ _).drew, HT.out _ (hTB.tc.below2 (Below.refl _ _).drew)⟩
          have HTB := Lib.hid hTB
          go_wp2_with fail
          refine wp_region_held_drew (S := (fun W => (TC w FA fn FC VA vn VC 13 (some ad) n c nm v W ∧ THeldK w FA fn FC VA vn VC 13 ad n c ⟨ad.block, ad.off + 8, none⟩ p1 A1 n1 c1 m1 y1 W))) (by kernel_rfl) (hS1) (fun hHeld => ?_)
          refine tk 0 ?_
          (try simp only [Act.put, sA, sB, sC])
          refine tk 1 ?_
          (try simp only [Act.put, sA, sB, sC])
          refine tk 2 ?_
          (try simp only [Act.put, sA, sB, sC])
          refine tk 3 ?_
          (try simp only [Act.put, sA, sB, sC])
          refine tk 4 ?_
          (try simp only [Act.put, sA, sB, sC])
          refine wpAnyH_ready (rs := [5]) (by kernel_rfl) (by simp) ?_
          refine AllReadyH.cons (o := ?o162) ?g162 (fun K hK => ?j162) AllReadyH.nil
          case g162 => (simp only [gA, gB, gC]; rfl)
          go_simp
          refine (H1.out _ hHeld.1.1).mono ?_; rintro e w2 ⟨rfl, hb2⟩; obtain ⟨ou0, ou1, ou2, ou3, ou4, ov0, ov1, ov2, ov3, ov4, ovf⟩ := TB.out ((HTB.out.below (Below.refl _ _).drew).below hb2)
          refine hK.out _ _ ?_ (fun hHeld => ?_)
          · (try dsimp only); exact HK1.out _ _ hHeld hb2
          clear hK K
          (try simp only [Act.put, sA, sB, sC])
          refine wpAnyH_ready (rs := [6]) (by kernel_rfl) (by simp) ?_
          refine AllReadyH.cons (o := ?o163) ?g163 (fun K hK => ?j163) AllReadyH.nil
          case g163 => (simp only [gA, gB, gC]; rfl)
          go_simp
          refine hK.out _ _ ?_ (fun hHeld => ?_)
          · (try dsimp only); exact HKZ.out _ _ _ _ _ _ hHeld
          clear hK K
          (try simp only [Act.put, sA, sB, sC])
          refine wpAnyH_done (by kernel_rfl) ?_ _
          go_wp2_with fail
          exact bodyPost_ret (v := agV s1) (by simp [results, Tryz.results256, go_sem, ov0, ov1, ov2, ov3, ov4]) rfl ⟨rfl, TB.done ((HTB.out.below (Below.refl _ _).drew).below hb2) _ _ _ _ _⟩
        · have h1 := fun W hb => (H1.out W hb).mono (fun e w' h => (⟨h.1.trans (if_neg hz1), h.2⟩ : e = .panicked (PV s2) ∧ Below W.heap.size W w'))
          clear H1
          have H1 := Lib.hid h1
          have HZ1 := Lib.hid hz1
          clear h1 hz1
          have HT := Lib.hid (fun W (hb : TC w FA fn FC VA vn VC 13 (some ad) n c nm v W) => (show THeldK w FA fn FC VA vn VC 13 ad n c ⟨ad.block, ad.off + 8, none⟩ p1 A1 n1 c1 m1 y1 W from let q := HQ1.out W hb.1; ⟨hb.2.2.1, hb.2.2.2.1, hb.2.2.2.2.1, hb.2.2.2.2.2.1, q.1, q.2.1, q.2.2.1, q.2.2.2.1, q.2.2.2.2.1, q.2.2.2.2.2.1, q.2.2.2.2.2.2.1, q.2.2.2.2.2.2.2⟩))
          have HK1 := Lib.hid (fun (W W' : World) (h : (TC w FA fn FC VA vn VC 13 (some ad) n c nm v W ∧ THeldK w FA fn FC VA vn VC 13 ad n c ⟨ad.block, ad.off + 8, none⟩ p1 A1 n1 c1 m1 y1 W)) (hb : Below W.heap.size W W') => (show (TC w FA fn FC VA vn VC 13 (some ad) n c nm v W' ∧ THeldK w FA fn FC VA vn VC 13 ad n c ⟨ad.block, ad.off + 8, none⟩ p1 A1 n1 c1 m1 y1 W') from ⟨h.1.below2 (hb.mono h.1.2.1), HT.out _ (h.1.below2 (hb.mono h.1.2.1))⟩))
          have HKZ := Lib.hid (fun (W : World) (u0 u1 u2 u3 u4 : Value) (h : (TC w FA fn FC VA vn VC 13 (some ad) n c nm v W ∧ THeldK w FA fn FC VA vn VC 13 ad n c ⟨ad.block, ad.off + 8, none⟩ p1 A1 n1 c1 m1 y1 W)) => let hb := below_set5 (Below.refl (w.heap.size + 2) W) (show w.heap.size + 2 ≤ w.heap.size + 1 + 1 by omega) u0 u1 u2 u3 u4; (show (TC w FA fn FC VA vn VC 13 (some ad) n c nm v (((((W.setCell ⟨w.heap.size + 1 + 1, 0, none⟩ u0).setCell ⟨w.heap.size + 1 + 1, 1, none⟩ u1).setCell ⟨w.heap.size + 1 + 1, 2, none⟩ u2).setCell ⟨w.heap.size + 1 + 1, 3, none⟩ u3).setCell ⟨w.heap.size + 1 + 1, 4, none⟩ u4) ∧ THeldK w FA fn FC VA vn VC 13 ad n c ⟨ad.block, ad.off + 8, none⟩ p1 A1 n1 c1 m1 y1 (((((W.setCell ⟨w.heap.size + 1 + 1, 0, none⟩ u0).setCell ⟨w.heap.size + 1 + 1, 1, none⟩ u1).setCell ⟨w.heap.size + 1 + 1, 2, none⟩ u2).setCell ⟨w.heap.size + 1 + 1, 3, none⟩ u3).setCell ⟨w.heap.size + 1 + 1, 4, none⟩ u4)) from ⟨h.1.below2 hb, HT.out _ (h.1.below2 hb)⟩))
          have hS1 : (fun W => (TC w FA fn FC VA vn VC 13 (some ad) n c nm v W ∧ THeldK w FA fn FC VA vn VC 13 ad n c ⟨ad.block, ad.off + 8, none⟩ p1 A1 n1 c1 m1 y1 W)) wc.drew := ⟨hTB.tc.below2 (Below.refl _ _).drew, HT.out _ (hTB.tc.below2 (Below.refl _ _).drew)⟩
          have HTB := Lib.hid hTB
          go_wp2_with fail
          refine wp_region_held_drew (S := (fun W => (TC w FA fn FC VA vn VC 13 (some ad) n c nm v W ∧ THeldK w FA fn FC VA vn VC 13 ad n c ⟨ad.block, ad.off + 8, none⟩ p1 A1 n1 c1 m1 y1 W))) (by kernel_rfl) (hS1) (fun hHeld => ?_)
          refine tk 0 ?_
          (try simp only [Act.put, sA, sB, sC])
          refine tk 1 ?_
          (try simp only [Act.put, sA, sB, sC])
          refine tk 2 ?_
          (try simp only [Act.put, sA, sB, sC])
          refine tk 3 ?_
          (try simp only [Act.put, sA, sB, sC])
          refine tk 4 ?_
          (try simp only [Act.put, sA, sB, sC])
          refine wpAnyH_ready (rs := [5]) (by kernel_rfl) (by simp) ?_
          refine AllReadyH.cons (o := ?o169) ?g169 (fun K hK => ?j169) AllReadyH.nil
          case g169 => (simp only [gA, gB, gC]; rfl)
          go_simp
          refine (H1.out _ hHeld.1.1).mono ?_; rintro e w2 ⟨rfl, hb2⟩
          exact ⟨rfl, (if_neg HZ1.out).symm, ((HTB.out.below (Below.refl _ _).drew).below hb2).1⟩
  · have h0 := fun W hb => (H0.out W hb).mono (fun e w' h => (⟨h.1.trans (if_neg hz), h.2⟩ : e = .panicked (PV r2) ∧ Below W.heap.size W w'))
    clear H0
    have H0 := Lib.hid h0
    have HZ := Lib.hid hz
    rw [if_pos hz]
    clear h0 hv0 hz
    have htb : TB w FA fn FC VA vn VC 13 (some ad) n c nm v (((w.alloc (.cells #[.slice FA fn FC, .slice VA vn VC] 247)).alloc (.cells #[.int .i64 13, .slice (some ad) n c, .string nm, .int .i64 v.k, .int .i64 v.i, .bool v.b, .string v.s, .float .f64 v.n] 77)).alloc (.cells #[.int .i64 0, .int .i64 0, .bool false, .string { data := #[] }, .float .f64 0] 55)) := TB_new w FA fn FC VA vn VC 13 (some ad) n c nm v
    have HHELD := Lib.hid (fun W (hb : TB w FA fn FC VA vn VC 13 (some ad) n c nm v W) => (show THeld w FA fn FC VA vn VC ad n c p0 A0 n0 c0 m0 y0 W from let q := hq0 W hb.1; ⟨hb.2.2.1, hb.2.2.2.1, hb.2.2.2.2.1.2.1, q.1, q.2.1, q.2.2.1, q.2.2.2.1, q.2.2.2.2.1, q.2.2.2.2.2.1, q.2.2.2.2.2.2.1, q.2.2.2.2.2.2.2⟩))
    clear hq0
    have HKP := Lib.hid (fun (W W' : World) (h : TB w FA fn FC VA vn VC 13 (some ad) n c nm v W ∧ THeld w FA fn FC VA vn VC ad n c p0 A0 n0 c0 m0 y0 W) (hb : Below W.heap.size W W') => And.intro (h.1.below hb) (HHELD.out _ (h.1.below hb)))
    have HKS := Lib.hid (fun (W : World) (b : Nat) (u0 u1 u2 u3 u4 : Value) (hge : w.heap.size + 3 ≤ b) (h : TB w FA fn FC VA vn VC 13 (some ad) n c nm v W ∧ THeld w FA fn FC VA vn VC ad n c p0 A0 n0 c0 m0 y0 W) => let hb := below_set5 (Below.refl (w.heap.size + 3) W) hge u0 u1 u2 u3 u4; And.intro (h.1.below3 hb) (HHELD.out _ (h.1.below3 hb)))
    go_enter Tryz.func256, Tryz.ntmps256
    go_upto_region 6 with fail
    generalize ((w.alloc (.cells #[.slice FA fn FC, .slice VA vn VC] 247)).alloc (.cells #[.int .i64 13, .slice (some ad) n c, .string nm, .int .i64 v.k, .int .i64 v.i, .bool v.b, .string v.s, .float .f64 v.n] 77)).alloc (.cells #[.int .i64 0, .int .i64 0, .bool false, .string { data := #[] }, .float .f64 0] 55) = wb at *
    have hS0 : TB w FA fn FC VA vn VC 13 (some ad) n c nm v wb.drew ∧ THeld w FA fn FC VA vn VC ad n c p0 A0 n0 c0 m0 y0 wb.drew := ⟨htb.below (Below.refl _ _).drew, HHELD.out _ (htb.below (Below.refl _ _).drew)⟩
    refine wp_region_held_drew (S := (fun W => TB w FA fn FC VA vn VC 13 (some ad) n c nm v W ∧ THeld w FA fn FC VA vn VC ad n c p0 A0 n0 c0 m0 y0 W)) (by kernel_rfl) (hS0) (fun hHeld => ?_)
    refine tk 0 ?_
    (try simp only [Act.put, sA, sB, sC])
    refine tk 1 ?_
    (try simp only [Act.put, sA, sB, sC])
    refine tk 2 ?_
    (try simp only [Act.put, sA, sB, sC])
    refine tk 3 ?_
    (try simp only [Act.put, sA, sB, sC])
    refine tk 4 ?_
    (try simp only [Act.put, sA, sB, sC])
    refine wpAnyH_ready (rs := [5, 6]) (by kernel_rfl) (by simp) ?_
    refine AllReadyH.cons (o := ?o197) ?g197 (fun K hK => ?j197) (AllReadyH.cons (o := ?o198) ?g198 (fun K hK => ?j198) AllReadyH.nil)
    case g197 => (simp only [gA, gB, gC]; rfl)
    case g198 => (simp only [gA, gB, gC]; rfl)
    · go_simp
      refine (H0.out _ (And.left (And.left hHeld))).mono ?_; rintro e wA ⟨rfl, hbA⟩
      exact ⟨rfl, (if_neg HZ.out).symm, (And.left (And.left hHeld)).trans (hbA.mono (And.left (And.left hHeld)).size)⟩
    · go_simp
      refine hK.out _ _ ?_ (fun hHeld => ?_)
      · (try dsimp only); exact HKP.out _ _ hS0 (alloc1 _ _)
      clear hK K
      (try simp only [Act.put, sA, sB, sC])
      refine wpAnyH_ready (rs := [5]) (by kernel_rfl) (by simp) ?_
      refine AllReadyH.cons (o := ?o199) ?g199 (fun K hK => ?j199) AllReadyH.nil
      case g199 => (simp only [gA, gB, gC]; rfl)
      go_simp
      refine (H0.out _ (And.left (And.left hHeld))).mono ?_; rintro e wA ⟨rfl, hbA⟩
      exact ⟨rfl, (if_neg HZ.out).symm, (And.left (And.left hHeld)).trans (hbA.mono (And.left (And.left hHeld)).size)⟩
set_option maxHeartbeats 600000 in
theorem tell_two (FA : Option Addr) (fn FC : Nat) (VA : Option Addr) (vn VC : Nat) (ad : Addr) (n c : Nat) (nm : ByteArray) (v : Vl) (w : World) (op : Int) (A0 : Option Addr) (n0 c0 : Nat) (m0 : ByteArray) (y0 : Vl) (p0 : Int) (R0 : Vl × Int) (hq0 : ∀ W, Below w.heap.size w W → Kid W ad p0 A0 n0 c0 m0 y0) (h0 : ∀ W, Below w.heap.size w W → Calls Tryz.prog 256 #[agR FA fn FC VA vn VC, agX p0 A0 n0 c0 m0 y0] W (TellP R0 W)) (hv0 : R0.2 = 0 → okV R0.1) (A1 : Option Addr) (n1 c1 : Nat) (m1 : ByteArray) (y1 : Vl) (p1 : Int) (R1 : Vl × Int) (hq1 : ∀ W, Below w.heap.size w W → Kid W ⟨ad.block, ad.off + 8, none⟩ p1 A1 n1 c1 m1 y1) (h1 : ∀ W, Below w.heap.size w W → Calls Tryz.prog 256 #[agR FA fn FC VA vn VC, agX p1 A1 n1 c1 m1 y1] W (TellP R1 W)) (hv1 : R1.2 = 0 → okV R1.1) (hn : 1 < n) (hop1 : op ≠ 1) (hop2 : op ≠ 2) (hop3 : op ≠ 3) (hop16 : op ≠ 16) (hop12 : op ≠ 12) (hop10 : op ≠ 10) (hop11 : op ≠ 11) (hop13 : op ≠ 13) (hp : R0.2 = 0 → R1.2 = 0 → ∀ W, Calls Tryz.prog 271 #[.int .i64 op, agV R0.1, agV R1.1] W (TellP (pairX op R0.1 R1.1) W)) :
    Calls Tryz.prog 256 #[agR FA fn FC VA vn VC, agX op (some ad) n c nm v] w (TellP (if R0.2 ≠ 0 then (vZero, R0.2) else (if R1.2 ≠ 0 then (vZero, R1.2) else pairX op R0.1 R1.1)) w) := by
  have hi1 : (1 : Int) < (n : Int) := by omega
  have hsf := fun (w : World) (a : Addr) (m : Mode) (b : Nat) => run_store Tryz.prog w a (.float .f64 b) m rfl
  have hi : (0 : Int) < (n : Int) := by omega
  have hn0 : 0 < n := by omega
  have q1 : (op == 1) = false := by simpa using hop1
  have q2 : (op == 2) = false := by simpa using hop2
  have q3 : (op == 3) = false := by simpa using hop3
  have q16 : (op == 16) = false := by simpa using hop16
  have q12 : (op == 12) = false := by simpa using hop12
  have q10 : (op == 10) = false := by simpa using hop10
  have q11 : (op == 11) = false := by simpa using hop11
  have q13 : (op == 13) = false := by simpa using hop13
  clear hop1
  clear hop2
  clear hop3
  clear hop16
  clear hop12
  clear hop10
  clear hop11
  clear hop13
  have HQ1 := Lib.hid hq1
  have H1 := Lib.hid h1
  clear hq1 h1 hv1
  obtain ⟨r1, r2⟩ := R0
  have H0 := Lib.hid h0
  clear h0
  by_cases hz : r2 = 0
  · subst hz
    rw [if_neg (fun h => h rfl)]
    have h0 := fun W hb => (H0.out W hb).mono (fun e w' h => (⟨h.1.trans (if_pos rfl), h.2⟩ : e = .returned (agV r1) ∧ Below W.heap.size W w'))
    clear H0
    have H0 := Lib.hid h0
    clear h0 hv0
    obtain ⟨s1, s2⟩ := R1
    by_cases hz1 : s2 = 0
    · subst hz1
      rw [if_neg (fun h => h rfl)]
      have h1 := fun W hb => (H1.out W hb).mono (fun e w' h => (⟨h.1.trans (if_pos rfl), h.2⟩ : e = .returned (agV s1) ∧ Below W.heap.size W w'))
      clear H1
      have H1 := Lib.hid h1
      have hp := hp rfl rfl
      clear h1
      have hpe : pairX op (r1, (0 : Int)).1 (s1, (0 : Int)).1 = pairX op r1 s1 := rfl
      rw [hpe] at hp ⊢
      clear hpe
      generalize pairX op r1 s1 = pr at hp ⊢
      obtain ⟨t1, t2⟩ := pr
      have HP0 := Lib.hid hp
      clear hp
      by_cases hz2 : t2 = 0
      · subst hz2
        have hp := fun W => (HP0.out W).mono (fun e w' h => (⟨h.1.trans (if_pos rfl), h.2⟩ : e = .returned (agV t1) ∧ Below W.heap.size W w'))
        have HPP := Lib.hid hp
        clear hp HP0
        have htb : TB w FA fn FC VA vn VC op (some ad) n c nm v (((w.alloc (.cells #[.slice FA fn FC, .slice VA vn VC] 247)).alloc (.cells #[.int .i64 op, .slice (some ad) n c, .string nm, .int .i64 v.k, .int .i64 v.i, .bool v.b, .string v.s, .float .f64 v.n] 77)).alloc (.cells #[.int .i64 0, .int .i64 0, .bool false, .string { data := #[] }, .float .f64 0] 55)) := TB_new w FA fn FC VA vn VC op (some ad) n c nm v
        have HHELD := Lib.hid (fun W (hb : TB w FA fn FC VA vn VC op (some ad) n c nm v W) => (show THeld w FA fn FC VA vn VC ad n c p0 A0 n0 c0 m0 y0 W from let q := hq0 W hb.1; ⟨hb.2.2.1, hb.2.2.2.1, hb.2.2.2.2.1.2.1, q.1, q.2.1, q.2.2.1, q.2.2.2.1, q.2.2.2.2.1, q.2.2.2.2.2.1, q.2.2.2.2.2.2.1, q.2.2.2.2.2.2.2⟩))
        clear hq0
        have HKP := Lib.hid (fun (W W' : World) (h : TB w FA fn FC VA vn VC op (some ad) n c nm v W ∧ THeld w FA fn FC VA vn VC ad n c p0 A0 n0 c0 m0 y0 W) (hb : Below W.heap.size W W') => And.intro (h.1.below hb) (HHELD.out _ (h.1.below hb)))
        have HKS := Lib.hid (fun (W : World) (b : Nat) (u0 u1 u2 u3 u4 : Value) (hge : w.heap.size + 3 ≤ b) (h : TB w FA fn FC VA vn VC op (some ad) n c nm v W ∧ THeld w FA fn FC VA vn VC ad n c p0 A0 n0 c0 m0 y0 W) => let hb := below_set5 (Below.refl (w.heap.size + 3) W) hge u0 u1 u2 u3 u4; And.intro (h.1.below3 hb) (HHELD.out _ (h.1.below3 hb)))
        go_enter Tryz.func256, Tryz.ntmps256
        go_upto_region 6 with fail
        generalize ((w.alloc (.cells #[.slice FA fn FC, .slice VA vn VC] 247)).alloc (.cells #[.int .i64 op, .slice (some ad) n c, .string nm, .int .i64 v.k, .int .i64 v.i, .bool v.b, .string v.s, .float .f64 v.n] 77)).alloc (.cells #[.int .i64 0, .int .i64 0, .bool false, .string { data := #[] }, .float .f64 0] 55) = wb at *
        go_cut [5] from 23 to 28 (fun s5 wx => ∃ b, s5 = .pointer (some ⟨b, 0, none⟩) ∧ w.heap.size + 3 ≤ b ∧ TB w FA fn FC VA vn VC op (some ad) n c nm v wx ∧ Bx wx b r1)
        case first =>
          have hS0 : TB w FA fn FC VA vn VC op (some ad) n c nm v wb.drew ∧ THeld w FA fn FC VA vn VC ad n c p0 A0 n0 c0 m0 y0 wb.drew := ⟨htb.below (Below.refl _ _).drew, HHELD.out _ (htb.below (Below.refl _ _).drew)⟩
          refine wp_region_held_drew (S := (fun W => TB w FA fn FC VA vn VC op (some ad) n c nm v W ∧ THeld w FA fn FC VA vn VC ad n c p0 A0 n0 c0 m0 y0 W)) (by kernel_rfl) (hS0) (fun hHeld => ?_)
          refine tk 0 ?_
          (try simp only [Act.put, sA, sB, sC])
          refine tk 1 ?_
          (try simp only [Act.put, sA, sB, sC])
          refine tk 2 ?_
          (try simp only [Act.put, sA, sB, sC])
          refine tk 3 ?_
          (try simp only [Act.put, sA, sB, sC])
          refine tk 4 ?_
          (try simp only [Act.put, sA, sB, sC])
          refine wpAnyH_ready (rs := [5, 6]) (by kernel_rfl) (by simp) ?_
          refine AllReadyH.cons (o := ?o246) ?g246 (fun K hK => ?j246) (AllReadyH.cons (o := ?o247) ?g247 (fun K hK => ?j247) AllReadyH.nil)
          case g246 => (simp only [gA, gB, gC]; rfl)
          case g247 => (simp only [gA, gB, gC]; rfl)
          · go_simp
            refine (H0.out _ (And.left (And.left hHeld))).mono ?_; rintro e wA ⟨rfl, hbA⟩; have hSA := HKP.out _ _ hHeld hbA
            refine hK.out _ _ ?_ (fun hHeld => ?_)
            · (try dsimp only); exact hSA
            clear hK K
            (try simp only [Act.put, sA, sB, sC])
            refine wpAnyH_ready (rs := [6]) (by kernel_rfl) (by simp) ?_
            refine AllReadyH.cons (o := ?o248) ?g248 (fun K hK => ?j248) AllReadyH.nil
            case g248 => (simp only [gA, gB, gC]; rfl)
            go_simp
            refine hK.out _ _ ?_ (fun hHeld => ?_)
            · (try dsimp only); exact HKP.out _ _ hSA (alloc1 _ _)
            clear hK K
            (try simp only [Act.put, sA, sB, sC])
            refine wpAnyH_ready (rs := [7]) (by kernel_rfl) (by simp) ?_
            refine AllReadyH.cons (o := ?o249) ?g249 (fun K hK => ?j249) AllReadyH.nil
            case g249 => (simp only [gA, gB, gC]; rfl)
            go_simp
            refine hK.out _ _ ?_ (fun hHeld => ?_)
            · (try dsimp only); exact HKP.out _ _ hSA (alloc1 _ _)
            clear hK K
            (try simp only [Act.put, sA, sB, sC])
            refine wpAnyH_done (by kernel_rfl) ?_ _
            go_wp2_with fail
            go_meet
            exact ⟨_, rfl, hSA.1.2.1, hHeld.1, Bx.new _ r1⟩
          · go_simp
            refine hK.out _ _ ?_ (fun hHeld => ?_)
            · (try dsimp only); exact HKP.out _ _ hS0 (alloc1 _ _)
            clear hK K
            (try simp only [Act.put, sA, sB, sC])
            refine wpAnyH_ready (rs := [5]) (by kernel_rfl) (by simp) ?_
            refine AllReadyH.cons (o := ?o250) ?g250 (fun K hK => ?j250) AllReadyH.nil
            case g250 => (simp only [gA, gB, gC]; rfl)
            go_simp
            refine (H0.out _ (And.left (And.left hHeld))).mono ?_; rintro e wA ⟨rfl, hbA⟩; have hSA := HKP.out _ _ hHeld hbA; obtain ⟨e0, e1, e2, e3, e4, ef⟩ := newcells hbA
            refine hK.out _ _ ?_ (fun hHeld => ?_)
            · (try dsimp only); exact hSA
            clear hK K
            (try simp only [Act.put, sA, sB, sC])
            refine wpAnyH_ready (rs := [7]) (by kernel_rfl) (by simp) ?_
            refine AllReadyH.cons (o := ?o251) ?g251 (fun K hK => ?j251) AllReadyH.nil
            case g251 => (simp only [gA, gB, gC]; rfl)
            go_simp
            refine hK.out _ _ ?_ (fun hHeld => ?_)
            · (try dsimp only); exact HKS.out _ _ _ _ _ _ _ htb.2.1 hSA
            clear hK K
            (try simp only [Act.put, sA, sB, sC])
            refine wpAnyH_done (by kernel_rfl) ?_ _
            go_wp2_with fail
            go_meet
            exact ⟨_, rfl, htb.2.1, hHeld.1, bx_set e0 e1 e2 e3 e4⟩
        case rest =>
          clear htb HHELD HKP HKS
          obtain ⟨b, rfl, hbge, hTB, hx0, hx1, hx2, hx3, hx4⟩ := hcut
          obtain ⟨d0, d1, d2, d3, d4, d5, d6, d7⟩ := hTB.2.2.2.2.1
          have g0 := hTB.2.2.1
          have g1 := hTB.2.2.2.1
          have HT := Lib.hid (fun W (hb : TC w FA fn FC VA vn VC op (some ad) n c nm v W) => (show THeldK w FA fn FC VA vn VC op ad n c ⟨ad.block, ad.off + 8, none⟩ p1 A1 n1 c1 m1 y1 W from let q := HQ1.out W hb.1; ⟨hb.2.2.1, hb.2.2.2.1, hb.2.2.2.2.1, hb.2.2.2.2.2.1, q.1, q.2.1, q.2.2.1, q.2.2.2.1, q.2.2.2.2.1, q.2.2.2.2.2.1, q.2.2.2.2.2.2.1, q.2.2.2.2.2.2.2⟩))
          have HK1 := Lib.hid (fun (W W' : World) (h : (TC w FA fn FC VA vn VC op (some ad) n c nm v W ∧ THeldK w FA fn FC VA vn VC op ad n c ⟨ad.block, ad.off + 8, none⟩ p1 A1 n1 c1 m1 y1 W ∧ W.cell? ⟨b, 0, none⟩ = some (.int .i64 r1.k) ∧ W.cell? ⟨b, 1, none⟩ = some (.int .i64 r1.i) ∧ W.cell? ⟨b, 2, none⟩ = some (.bool r1.b) ∧ W.cell? ⟨b, 3, none⟩ = some (.string r1.s) ∧ W.cell? ⟨b, 4, none⟩ = some (.float .f64 r1.n))) (hb : Below W.heap.size W W') => (show (TC w FA fn FC VA vn VC op (some ad) n c nm v W' ∧ THeldK w FA fn FC VA vn VC op ad n c ⟨ad.block, ad.off + 8, none⟩ p1 A1 n1 c1 m1 y1 W' ∧ W'.cell? ⟨b, 0, none⟩ = some (.int .i64 r1.k) ∧ W'.cell? ⟨b, 1, none⟩ = some (.int .i64 r1.i) ∧ W'.cell? ⟨b, 2, none⟩ = some (.bool r1.b) ∧ W'.cell? ⟨b, 3, none⟩ = some (.string r1.s) ∧ W'.cell? ⟨b, 4, none⟩ = some (.float .f64 r1.n)) from ⟨h.1.below2 (hb.mono h.1.2.1), HT.out _ (h.1.below2 (hb.mono h.1.2.1)), ((show Bx W b r1 from h.2.2).below hb)⟩))
          have HKZ := Lib.hid (fun (W : World) (u0 u1 u2 u3 u4 : Value) (h : (TC w FA fn FC VA vn VC op (some ad) n c nm v W ∧ THeldK w FA fn FC VA vn VC op ad n c ⟨ad.block, ad.off + 8, none⟩ p1 A1 n1 c1 m1 y1 W ∧ W.cell? ⟨b, 0, none⟩ = some (.int .i64 r1.k) ∧ W.cell? ⟨b, 1, none⟩ = some (.int .i64 r1.i) ∧ W.cell? ⟨b, 2, none⟩ = some (.bool r1.b) ∧ W.cell? ⟨b, 3, none⟩ = some (.string r1.s) ∧ W.cell? ⟨b, 4, none⟩ = some (.float .f64 r1.n))) => let hb := below_set5 (Below.refl (w.heap.size + 2) W) (show w.heap.size + 2 ≤ w.heap.size + 1 + 1 by omega) u0 u1 u2 u3 u4; (show (TC w FA fn FC VA vn VC op (some ad) n c nm v (((((W.setCell ⟨w.heap.size + 1 + 1, 0, none⟩ u0).setCell ⟨w.heap.size + 1 + 1, 1, none⟩ u1).setCell ⟨w.heap.size + 1 + 1, 2, none⟩ u2).setCell ⟨w.heap.size + 1 + 1, 3, none⟩ u3).setCell ⟨w.heap.size + 1 + 1, 4, none⟩ u4) ∧ THeldK w FA fn FC VA vn VC op ad n c ⟨ad.block, ad.off + 8, none⟩ p1 A1 n1 c1 m1 y1 (((((W.setCell ⟨w.heap.size + 1 + 1, 0, none⟩ u0).setCell ⟨w.heap.size + 1 + 1, 1, none⟩ u1).setCell ⟨w.heap.size + 1 + 1, 2, none⟩ u2).setCell ⟨w.heap.size + 1 + 1, 3, none⟩ u3).setCell ⟨w.heap.size + 1 + 1, 4, none⟩ u4) ∧ (((((W.setCell ⟨w.heap.size + 1 + 1, 0, none⟩ u0).setCell ⟨w.heap.size + 1 + 1, 1, none⟩ u1).setCell ⟨w.heap.size + 1 + 1, 2, none⟩ u2).setCell ⟨w.heap.size + 1 + 1, 3, none⟩ u3).setCell ⟨w.heap.size + 1 + 1, 4, none⟩ u4).cell? ⟨b, 0, none⟩ = some (.int .i64 r1.k) ∧ (((((W.setCell ⟨w.heap.size + 1 + 1, 0, none⟩ u0).setCell ⟨w.heap.size + 1 + 1, 1, none⟩ u1).setCell ⟨w.heap.size + 1 + 1, 2, none⟩ u2).setCell ⟨w.heap.size + 1 + 1, 3, none⟩ u3).setCell ⟨w.heap.size + 1 + 1, 4, none⟩ u4).cell? ⟨b, 1, none⟩ = some (.int .i64 r1.i) ∧ (((((W.setCell ⟨w.heap.size + 1 + 1, 0, none⟩ u0).setCell ⟨w.heap.size + 1 + 1, 1, none⟩ u1).setCell ⟨w.heap.size + 1 + 1, 2, none⟩ u2).setCell ⟨w.heap.size + 1 + 1, 3, none⟩ u3).setCell ⟨w.heap.size + 1 + 1, 4, none⟩ u4).cell? ⟨b, 2, none⟩ = some (.bool r1.b) ∧ (((((W.setCell ⟨w.heap.size + 1 + 1, 0, none⟩ u0).setCell ⟨w.heap.size + 1 + 1, 1, none⟩ u1).setCell ⟨w.heap.size + 1 + 1, 2, none⟩ u2).setCell ⟨w.heap.size + 1 + 1, 3, none⟩ u3).setCell ⟨w.heap.size + 1 + 1, 4, none⟩ u4).cell? ⟨b, 3, none⟩ = some (.string r1.s) ∧ (((((W.setCell ⟨w.heap.size + 1 + 1, 0, none⟩ u0).setCell ⟨w.heap.size + 1 + 1, 1, none⟩ u1).setCell ⟨w.heap.size + 1 + 1, 2, none⟩ u2).setCell ⟨w.heap.size + 1 + 1, 3, none⟩ u3).setCell ⟨w.heap.size + 1 + 1, 4, none⟩ u4).cell? ⟨b, 4, none⟩ = some (.float .f64 r1.n)) from ⟨h.1.below2 hb, HT.out _ (h.1.below2 hb), bx_off (show Bx W b r1 from h.2.2) (by omega) u0 u1 u2 u3 u4⟩))
          have hS1 : (fun W => (TC w FA fn FC VA vn VC op (some ad) n c nm v W ∧ THeldK w FA fn FC VA vn VC op ad n c ⟨ad.block, ad.off + 8, none⟩ p1 A1 n1 c1 m1 y1 W ∧ W.cell? ⟨b, 0, none⟩ = some (.int .i64 r1.k) ∧ W.cell? ⟨b, 1, none⟩ = some (.int .i64 r1.i) ∧ W.cell? ⟨b, 2, none⟩ = some (.bool r1.b) ∧ W.cell? ⟨b, 3, none⟩ = some (.string r1.s) ∧ W.cell? ⟨b, 4, none⟩ = some (.float .f64 r1.n))) wc.drew := ⟨hTB.tc.below2 (Below.refl _ _).drew, HT.out _ (hTB.tc.below2 (Below.refl _ _).drew), hx0, hx1, hx2, hx3, hx4⟩
          have HTB := Lib.hid hTB
          go_wp2_with fail
          refine wp_region_held_drew (S := (fun W => (TC w FA fn FC VA vn VC op (some ad) n c nm v W ∧ THeldK w FA fn FC VA vn VC op ad n c ⟨ad.block, ad.off + 8, none⟩ p1 A1 n1 c1 m1 y1 W ∧ W.cell? ⟨b, 0, none⟩ = some (.int .i64 r1.k) ∧ W.cell? ⟨b, 1, none⟩ = some (.int .i64 r1.i) ∧ W.cell? ⟨b, 2, none⟩ = some (.bool r1.b) ∧ W.cell? ⟨b, 3, none⟩ = some (.string r1.s) ∧ W.cell? ⟨b, 4, none⟩ = some (.float .f64 r1.n)))) (by kernel_rfl) (hS1) (fun hHeld => ?_)
          refine tk 0 ?_
          (try simp only [Act.put, sA, sB, sC])
          refine tk 1 ?_
          (try simp only [Act.put, sA, sB, sC])
          refine tk 2 ?_
          (try simp only [Act.put, sA, sB, sC])
          refine tk 3 ?_
          (try simp only [Act.put, sA, sB, sC])
          refine tk 4 ?_
          (try simp only [Act.put, sA, sB, sC])
          refine tk 5 ?_
          (try simp only [Act.put, sA, sB, sC])
          refine tk 6 ?_
          (try simp only [Act.put, sA, sB, sC])
          refine tk 7 ?_
          (try simp only [Act.put, sA, sB, sC])
          refine wpAnyH_ready (rs := [8]) (by kernel_rfl) (by simp) ?_
          refine AllReadyH.cons (o := ?o217) ?g217 (fun K hK => ?j217) AllReadyH.nil
          case g217 => (simp only [gA, gB, gC]; rfl)
          go_simp
          refine (H1.out _ hHeld.1.1).mono ?_; rintro e w2 ⟨rfl, hb2⟩
          refine hK.out _ _ ?_ (fun hHeld => ?_)
          · (try dsimp only); exact HK1.out _ _ hHeld hb2
          clear hK K
          (try simp only [Act.put, sA, sB, sC])
          refine wpAnyH_ready (rs := [9]) (by kernel_rfl) (by simp) ?_
          refine AllReadyH.cons (o := ?o218) ?g218 (fun K hK => ?j218) AllReadyH.nil
          case g218 => (simp only [gA, gB, gC]; rfl)
          go_simp
          refine (HPP.out _).mono ?_; rintro e w3 ⟨rfl, hb3⟩; obtain ⟨ou0, ou1, ou2, ou3, ou4, ov0, ov1, ov2, ov3, ov4, ovf⟩ := TB.out (((HTB.out.below (Below.refl _ _).drew).below hb2).below hb3)
          refine hK.out _ _ ?_ (fun hHeld => ?_)
          · (try dsimp only); exact HK1.out _ _ hHeld hb3
          clear hK K
          (try simp only [Act.put, sA, sB, sC])
          refine wpAnyH_ready (rs := [10]) (by kernel_rfl) (by simp) ?_
          refine AllReadyH.cons (o := ?o219) ?g219 (fun K hK => ?j219) AllReadyH.nil
          case g219 => (simp only [gA, gB, gC]; rfl)
          go_simp
          refine hK.out _ _ ?_ (fun hHeld => ?_)
          · (try dsimp only); exact HKZ.out _ _ _ _ _ _ hHeld
          clear hK K
          (try simp only [Act.put, sA, sB, sC])
          refine wpAnyH_done (by kernel_rfl) ?_ _
          go_wp2_with fail
          exact bodyPost_ret (v := agV t1) (by simp [results, Tryz.results256, go_sem, ov0, ov1, ov2, ov3, ov4]) rfl ⟨rfl, TB.done (((HTB.out.below (Below.refl _ _).drew).below hb2).below hb3) _ _ _ _ _⟩
      · have hp := fun W => (HP0.out W).mono (fun e w' h => (⟨h.1.trans (if_neg hz2), h.2⟩ : e = .panicked (PV t2) ∧ Below W.heap.size W w'))
        have HPP := Lib.hid hp
        have HZ2 := Lib.hid hz2
        clear hp HP0 hz2
        have htb : TB w FA fn FC VA vn VC op (some ad) n c nm v (((w.alloc (.cells #[.slice FA fn FC, .slice VA vn VC] 247)).alloc (.cells #[.int .i64 op, .slice (some ad) n c, .string nm, .int .i64 v.k, .int .i64 v.i, .bool v.b, .string v.s, .float .f64 v.n] 77)).alloc (.cells #[.int .i64 0, .int .i64 0, .bool false, .string { data := #[] }, .float .f64 0] 55)) := TB_new w FA fn FC VA vn VC op (some ad) n c nm v
        have HHELD := Lib.hid (fun W (hb : TB w FA fn FC VA vn VC op (some ad) n c nm v W) => (show THeld w FA fn FC VA vn VC ad n c p0 A0 n0 c0 m0 y0 W from let q := hq0 W hb.1; ⟨hb.2.2.1, hb.2.2.2.1, hb.2.2.2.2.1.2.1, q.1, q.2.1, q.2.2.1, q.2.2.2.1, q.2.2.2.2.1, q.2.2.2.2.2.1, q.2.2.2.2.2.2.1, q.2.2.2.2.2.2.2⟩))
        clear hq0
        have HKP := Lib.hid (fun (W W' : World) (h : TB w FA fn FC VA vn VC op (some ad) n c nm v W ∧ THeld w FA fn FC VA vn VC ad n c p0 A0 n0 c0 m0 y0 W) (hb : Below W.heap.size W W') => And.intro (h.1.below hb) (HHELD.out _ (h.1.below hb)))
        have HKS := Lib.hid (fun (W : World) (b : Nat) (u0 u1 u2 u3 u4 : Value) (hge : w.heap.size + 3 ≤ b) (h : TB w FA fn FC VA vn VC op (some ad) n c nm v W ∧ THeld w FA fn FC VA vn VC ad n c p0 A0 n0 c0 m0 y0 W) => let hb := below_set5 (Below.refl (w.heap.size + 3) W) hge u0 u1 u2 u3 u4; And.intro (h.1.below3 hb) (HHELD.out _ (h.1.below3 hb)))
        go_enter Tryz.func256, Tryz.ntmps256
        go_upto_region 6 with fail
        generalize ((w.alloc (.cells #[.slice FA fn FC, .slice VA vn VC] 247)).alloc (.cells #[.int .i64 op, .slice (some ad) n c, .string nm, .int .i64 v.k, .int .i64 v.i, .bool v.b, .string v.s, .float .f64 v.n] 77)).alloc (.cells #[.int .i64 0, .int .i64 0, .bool false, .string { data := #[] }, .float .f64 0] 55) = wb at *
        go_cut [5] from 23 to 28 (fun s5 wx => ∃ b, s5 = .pointer (some ⟨b, 0, none⟩) ∧ w.heap.size + 3 ≤ b ∧ TB w FA fn FC VA vn VC op (some ad) n c nm v wx ∧ Bx wx b r1)
        case first =>
          have hS0 : TB w FA fn FC VA vn VC op (some ad) n c nm v wb.drew ∧ THeld w FA fn FC VA vn VC ad n c p0 A0 n0 c0 m0 y0 wb.drew := ⟨htb.below (Below.refl _ _).drew, HHELD.out _ (htb.below (Below.refl _ _).drew)⟩
          refine wp_region_held_drew (S := (fun W => TB w FA fn FC VA vn VC op (some ad) n c nm v W ∧ THeld w FA fn FC VA vn VC ad n c p0 A0 n0 c0 m0 y0 W)) (by kernel_rfl) (hS0) (fun hHeld => ?_)
          refine tk 0 ?_
          (try simp only [Act.put, sA, sB, sC])
          refine tk 1 ?_
          (try simp only [Act.put, sA, sB, sC])
          refine tk 2 ?_
          (try simp only [Act.put, sA, sB, sC])
          refine tk 3 ?_
          (try simp only [Act.put, sA, sB, sC])
          refine tk 4 ?_
          (try simp only [Act.put, sA, sB, sC])
          refine wpAnyH_ready (rs := [5, 6]) (by kernel_rfl) (by simp) ?_
          refine AllReadyH.cons (o := ?o257) ?g257 (fun K hK => ?j257) (AllReadyH.cons (o := ?o258) ?g258 (fun K hK => ?j258) AllReadyH.nil)
          case g257 => (simp only [gA, gB, gC]; rfl)
          case g258 => (simp only [gA, gB, gC]; rfl)
          · go_simp
            refine (H0.out _ (And.left (And.left hHeld))).mono ?_; rintro e wA ⟨rfl, hbA⟩; have hSA := HKP.out _ _ hHeld hbA
            refine hK.out _ _ ?_ (fun hHeld => ?_)
            · (try dsimp only); exact hSA
            clear hK K
            (try simp only [Act.put, sA, sB, sC])
            refine wpAnyH_ready (rs := [6]) (by kernel_rfl) (by simp) ?_
            refine AllReadyH.cons (o := ?o259) ?g259 (fun K hK => ?j259) AllReadyH.nil
            case g259 => (simp only [gA, gB, gC]; rfl)
            go_simp
            refine hK.out _ _ ?_ (fun hHeld => ?_)
            · (try dsimp only); exact HKP.out _ _ hSA (alloc1 _ _)
            clear hK K
            (try simp only [Act.put, sA, sB, sC])
            refine wpAnyH_ready (rs := [7]) (by kernel_rfl) (by simp) ?_
            refine AllReadyH.cons (o := ?o260) ?g260 (fun K hK => ?j260) AllReadyH.nil
            case g260 => (simp only [gA, gB, gC]; rfl)
            go_simp
            refine hK.out _ _ ?_ (fun hHeld => ?_)
            · (try dsimp only); exact HKP.out _ _ hSA (alloc1 _ _)
            clear hK K
            (try simp only [Act.put, sA, sB, sC])
            refine wpAnyH_done (by kernel_rfl) ?_ _
            go_wp2_with fail
            go_meet
            exact ⟨_, rfl, hSA.1.2.1, hHeld.1, Bx.new _ r1⟩
          · go_simp
            refine hK.out _ _ ?_ (fun hHeld => ?_)
            · (try dsimp only); exact HKP.out _ _ hS0 (alloc1 _ _)
            clear hK K
            (try simp only [Act.put, sA, sB, sC])
            refine wpAnyH_ready (rs := [5]) (by kernel_rfl) (by simp) ?_
            refine AllReadyH.cons (o := ?o261) ?g261 (fun K hK => ?j261) AllReadyH.nil
            case g261 => (simp only [gA, gB, gC]; rfl)
            go_simp
            refine (H0.out _ (And.left (And.left hHeld))).mono ?_; rintro e wA ⟨rfl, hbA⟩; have hSA := HKP.out _ _ hHeld hbA; obtain ⟨e0, e1, e2, e3, e4, ef⟩ := newcells hbA
            refine hK.out _ _ ?_ (fun hHeld => ?_)
            · (try dsimp only); exact hSA
            clear hK K
            (try simp only [Act.put, sA, sB, sC])
            refine wpAnyH_ready (rs := [7]) (by kernel_rfl) (by simp) ?_
            refine AllReadyH.cons (o := ?o262) ?g262 (fun K hK => ?j262) AllReadyH.nil
            case g262 => (simp only [gA, gB, gC]; rfl)
            go_simp
            refine hK.out _ _ ?_ (fun hHeld => ?_)
            · (try dsimp only); exact HKS.out _ _ _ _ _ _ _ htb.2.1 hSA
            clear hK K
            (try simp only [Act.put, sA, sB, sC])
            refine wpAnyH_done (by kernel_rfl) ?_ _
            go_wp2_with fail
            go_meet
            exact ⟨_, rfl, htb.2.1, hHeld.1, bx_set e0 e1 e2 e3 e4⟩
        case rest =>
          clear htb HHELD HKP HKS
          obtain ⟨b, rfl, hbge, hTB, hx0, hx1, hx2, hx3, hx4⟩ := hcut
          obtain ⟨d0, d1, d2, d3, d4, d5, d6, d7⟩ := hTB.2.2.2.2.1
          have g0 := hTB.2.2.1
          have g1 := hTB.2.2.2.1
          have HT := Lib.hid (fun W (hb : TC w FA fn FC VA vn VC op (some ad) n c nm v W) => (show THeldK w FA fn FC VA vn VC op ad n c ⟨ad.block, ad.off + 8, none⟩ p1 A1 n1 c1 m1 y1 W from let q := HQ1.out W hb.1; ⟨hb.2.2.1, hb.2.2.2.1, hb.2.2.2.2.1, hb.2.2.2.2.2.1, q.1, q.2.1, q.2.2.1, q.2.2.2.1, q.2.2.2.2.1, q.2.2.2.2.2.1, q.2.2.2.2.2.2.1, q.2.2.2.2.2.2.2⟩))
          have HK1 := Lib.hid (fun (W W' : World) (h : (TC w FA fn FC VA vn VC op (some ad) n c nm v W ∧ THeldK w FA fn FC VA vn VC op ad n c ⟨ad.block, ad.off + 8, none⟩ p1 A1 n1 c1 m1 y1 W ∧ W.cell? ⟨b, 0, none⟩ = some (.int .i64 r1.k) ∧ W.cell? ⟨b, 1, none⟩ = some (.int .i64 r1.i) ∧ W.cell? ⟨b, 2, none⟩ = some (.bool r1.b) ∧ W.cell? ⟨b, 3, none⟩ = some (.string r1.s) ∧ W.cell? ⟨b, 4, none⟩ = some (.float .f64 r1.n))) (hb : Below W.heap.size W W') => (show (TC w FA fn FC VA vn VC op (some ad) n c nm v W' ∧ THeldK w FA fn FC VA vn VC op ad n c ⟨ad.block, ad.off + 8, none⟩ p1 A1 n1 c1 m1 y1 W' ∧ W'.cell? ⟨b, 0, none⟩ = some (.int .i64 r1.k) ∧ W'.cell? ⟨b, 1, none⟩ = some (.int .i64 r1.i) ∧ W'.cell? ⟨b, 2, none⟩ = some (.bool r1.b) ∧ W'.cell? ⟨b, 3, none⟩ = some (.string r1.s) ∧ W'.cell? ⟨b, 4, none⟩ = some (.float .f64 r1.n)) from ⟨h.1.below2 (hb.mono h.1.2.1), HT.out _ (h.1.below2 (hb.mono h.1.2.1)), ((show Bx W b r1 from h.2.2).below hb)⟩))
          have HKZ := Lib.hid (fun (W : World) (u0 u1 u2 u3 u4 : Value) (h : (TC w FA fn FC VA vn VC op (some ad) n c nm v W ∧ THeldK w FA fn FC VA vn VC op ad n c ⟨ad.block, ad.off + 8, none⟩ p1 A1 n1 c1 m1 y1 W ∧ W.cell? ⟨b, 0, none⟩ = some (.int .i64 r1.k) ∧ W.cell? ⟨b, 1, none⟩ = some (.int .i64 r1.i) ∧ W.cell? ⟨b, 2, none⟩ = some (.bool r1.b) ∧ W.cell? ⟨b, 3, none⟩ = some (.string r1.s) ∧ W.cell? ⟨b, 4, none⟩ = some (.float .f64 r1.n))) => let hb := below_set5 (Below.refl (w.heap.size + 2) W) (show w.heap.size + 2 ≤ w.heap.size + 1 + 1 by omega) u0 u1 u2 u3 u4; (show (TC w FA fn FC VA vn VC op (some ad) n c nm v (((((W.setCell ⟨w.heap.size + 1 + 1, 0, none⟩ u0).setCell ⟨w.heap.size + 1 + 1, 1, none⟩ u1).setCell ⟨w.heap.size + 1 + 1, 2, none⟩ u2).setCell ⟨w.heap.size + 1 + 1, 3, none⟩ u3).setCell ⟨w.heap.size + 1 + 1, 4, none⟩ u4) ∧ THeldK w FA fn FC VA vn VC op ad n c ⟨ad.block, ad.off + 8, none⟩ p1 A1 n1 c1 m1 y1 (((((W.setCell ⟨w.heap.size + 1 + 1, 0, none⟩ u0).setCell ⟨w.heap.size + 1 + 1, 1, none⟩ u1).setCell ⟨w.heap.size + 1 + 1, 2, none⟩ u2).setCell ⟨w.heap.size + 1 + 1, 3, none⟩ u3).setCell ⟨w.heap.size + 1 + 1, 4, none⟩ u4) ∧ (((((W.setCell ⟨w.heap.size + 1 + 1, 0, none⟩ u0).setCell ⟨w.heap.size + 1 + 1, 1, none⟩ u1).setCell ⟨w.heap.size + 1 + 1, 2, none⟩ u2).setCell ⟨w.heap.size + 1 + 1, 3, none⟩ u3).setCell ⟨w.heap.size + 1 + 1, 4, none⟩ u4).cell? ⟨b, 0, none⟩ = some (.int .i64 r1.k) ∧ (((((W.setCell ⟨w.heap.size + 1 + 1, 0, none⟩ u0).setCell ⟨w.heap.size + 1 + 1, 1, none⟩ u1).setCell ⟨w.heap.size + 1 + 1, 2, none⟩ u2).setCell ⟨w.heap.size + 1 + 1, 3, none⟩ u3).setCell ⟨w.heap.size + 1 + 1, 4, none⟩ u4).cell? ⟨b, 1, none⟩ = some (.int .i64 r1.i) ∧ (((((W.setCell ⟨w.heap.size + 1 + 1, 0, none⟩ u0).setCell ⟨w.heap.size + 1 + 1, 1, none⟩ u1).setCell ⟨w.heap.size + 1 + 1, 2, none⟩ u2).setCell ⟨w.heap.size + 1 + 1, 3, none⟩ u3).setCell ⟨w.heap.size + 1 + 1, 4, none⟩ u4).cell? ⟨b, 2, none⟩ = some (.bool r1.b) ∧ (((((W.setCell ⟨w.heap.size + 1 + 1, 0, none⟩ u0).setCell ⟨w.heap.size + 1 + 1, 1, none⟩ u1).setCell ⟨w.heap.size + 1 + 1, 2, none⟩ u2).setCell ⟨w.heap.size + 1 + 1, 3, none⟩ u3).setCell ⟨w.heap.size + 1 + 1, 4, none⟩ u4).cell? ⟨b, 3, none⟩ = some (.string r1.s) ∧ (((((W.setCell ⟨w.heap.size + 1 + 1, 0, none⟩ u0).setCell ⟨w.heap.size + 1 + 1, 1, none⟩ u1).setCell ⟨w.heap.size + 1 + 1, 2, none⟩ u2).setCell ⟨w.heap.size + 1 + 1, 3, none⟩ u3).setCell ⟨w.heap.size + 1 + 1, 4, none⟩ u4).cell? ⟨b, 4, none⟩ = some (.float .f64 r1.n)) from ⟨h.1.below2 hb, HT.out _ (h.1.below2 hb), bx_off (show Bx W b r1 from h.2.2) (by omega) u0 u1 u2 u3 u4⟩))
          have hS1 : (fun W => (TC w FA fn FC VA vn VC op (some ad) n c nm v W ∧ THeldK w FA fn FC VA vn VC op ad n c ⟨ad.block, ad.off + 8, none⟩ p1 A1 n1 c1 m1 y1 W ∧ W.cell? ⟨b, 0, none⟩ = some (.int .i64 r1.k) ∧ W.cell? ⟨b, 1, none⟩ = some (.int .i64 r1.i) ∧ W.cell? ⟨b, 2, none⟩ = some (.bool r1.b) ∧ W.cell? ⟨b, 3, none⟩ = some (.string r1.s) ∧ W.cell? ⟨b, 4, none⟩ = some (.float .f64 r1.n))) wc.drew := ⟨hTB.tc.below2 (Below.refl _ _).drew, HT.out _ (hTB.tc.below2 (Below.refl _ _).drew), hx0, hx1, hx2, hx3, hx4⟩
          have HTB := Lib.hid hTB
          go_wp2_with fail
          refine wp_region_held_drew (S := (fun W => (TC w FA fn FC VA vn VC op (some ad) n c nm v W ∧ THeldK w FA fn FC VA vn VC op ad n c ⟨ad.block, ad.off + 8, none⟩ p1 A1 n1 c1 m1 y1 W ∧ W.cell? ⟨b, 0, none⟩ = some (.int .i64 r1.k) ∧ W.cell? ⟨b, 1, none⟩ = some (.int .i64 r1.i) ∧ W.cell? ⟨b, 2, none⟩ = some (.bool r1.b) ∧ W.cell? ⟨b, 3, none⟩ = some (.string r1.s) ∧ W.cell? ⟨b, 4, none⟩ = some (.float .f64 r1.n)))) (by kernel_rfl) (hS1) (fun hHeld => ?_)
          refine tk 0 ?_
          (try simp only [Act.put, sA, sB, sC])
          refine tk 1 ?_
          (try simp only [Act.put, sA, sB, sC])
          refine tk 2 ?_
          (try simp only [Act.put, sA, sB, sC])
          refine tk 3 ?_
          (try simp only [Act.put, sA, sB, sC])
          refine tk 4 ?_
          (try simp only [Act.put, sA, sB, sC])
          refine tk 5 ?_
          (try simp only [Act.put, sA, sB, sC])
          refine tk 6 ?_
          (try simp only [Act.put, sA, sB, sC])
          refine tk 7 ?_
          (try simp only [Act.put, sA, sB, sC])
          refine wpAnyH_ready (rs := [8]) (by kernel_rfl) (by simp) ?_
          refine AllReadyH.cons (o := ?o228) ?g228 (fun K hK => ?j228) AllReadyH.nil
          case g228 => (simp only [gA, gB, gC]; rfl)
          go_simp
          refine (H1.out _ hHeld.1.1).mono ?_; rintro e w2 ⟨rfl, hb2⟩
          refine hK.out _ _ ?_ (fun hHeld => ?_)
          · (try dsimp only); exact HK1.out _ _ hHeld hb2
          clear hK K
          (try simp only [Act.put, sA, sB, sC])
          refine wpAnyH_ready (rs := [9]) (by kernel_rfl) (by simp) ?_
          refine AllReadyH.cons (o := ?o229) ?g229 (fun K hK => ?j229) AllReadyH.nil
          case g229 => (simp only [gA, gB, gC]; rfl)
          go_simp
          refine (HPP.out _).mono ?_; rintro e w3 ⟨rfl, hb3⟩
          exact ⟨rfl, (if_neg HZ2.out).symm, (((HTB.out.below (Below.refl _ _).drew).below hb2).below hb3).1⟩
    · have h1 := fun W hb => (H1.out W hb).mono (fun e w' h => (⟨h.1.trans (if_neg hz1), h.2⟩ : e = .panicked (PV s2) ∧ Below W.heap.size W w'))
      clear H1
      have H1 := Lib.hid h1
      have HZ1 := Lib.hid hz1
      rw [if_pos hz1]
      clear h1 hz1 hp
      have htb : TB w FA fn FC VA vn VC op (some ad) n c nm v (((w.alloc (.cells #[.slice FA fn FC, .slice VA vn VC] 247)).alloc (.cells #[.int .i64 op, .slice (some ad) n c, .string nm, .int .i64 v.k, .int .i64 v.i, .bool v.b, .string v.s, .float .f64 v.n] 77)).alloc (.cells #[.int .i64 0, .int .i64 0, .bool false, .string { data := #[] }, .float .f64 0] 55)) := TB_new w FA fn FC VA vn VC op (some ad) n c nm v
      have HHELD := Lib.hid (fun W (hb : TB w FA fn FC VA vn VC op (some ad) n c nm v W) => (show THeld w FA fn FC VA vn VC ad n c p0 A0 n0 c0 m0 y0 W from let q := hq0 W hb.1; ⟨hb.2.2.1, hb.2.2.2.1, hb.2.2.2.2.1.2.1, q.1, q.2.1, q.2.2.1, q.2.2.2.1, q.2.2.2.2.1, q.2.2.2.2.2.1, q.2.2.2.2.2.2.1, q.2.2.2.2.2.2.2⟩))
      clear hq0
      have HKP := Lib.hid (fun (W W' : World) (h : TB w FA fn FC VA vn VC op (some ad) n c nm v W ∧ THeld w FA fn FC VA vn VC ad n c p0 A0 n0 c0 m0 y0 W) (hb : Below W.heap.size W W') => And.intro (h.1.below hb) (HHELD.out _ (h.1.below hb)))
      have HKS := Lib.hid (fun (W : World) (b : Nat) (u0 u1 u2 u3 u4 : Value) (hge : w.heap.size + 3 ≤ b) (h : TB w FA fn FC VA vn VC op (some ad) n c nm v W ∧ THeld w FA fn FC VA vn VC ad n c p0 A0 n0 c0 m0 y0 W) => let hb := below_set5 (Below.refl (w.heap.size + 3) W) hge u0 u1 u2 u3 u4; And.intro (h.1.below3 hb) (HHELD.out _ (h.1.below3 hb)))
      go_enter Tryz.func256, Tryz.ntmps256
      go_upto_region 6 with fail
      generalize ((w.alloc (.cells #[.slice FA fn FC, .slice VA vn VC] 247)).alloc (.cells #[.int .i64 op, .slice (some ad) n c, .string nm, .int .i64 v.k, .int .i64 v.i, .bool v.b, .string v.s, .float .f64 v.n] 77)).alloc (.cells #[.int .i64 0, .int .i64 0, .bool false, .string { data := #[] }, .float .f64 0] 55) = wb at *
      go_cut [5] from 23 to 28 (fun s5 wx => ∃ b, s5 = .pointer (some ⟨b, 0, none⟩) ∧ w.heap.size + 3 ≤ b ∧ TB w FA fn FC VA vn VC op (some ad) n c nm v wx ∧ Bx wx b r1)
      case first =>
        have hS0 : TB w FA fn FC VA vn VC op (some ad) n c nm v wb.drew ∧ THeld w FA fn FC VA vn VC ad n c p0 A0 n0 c0 m0 y0 wb.drew := ⟨htb.below (Below.refl _ _).drew, HHELD.out _ (htb.below (Below.refl _ _).drew)⟩
        refine wp_region_held_drew (S := (fun W => TB w FA fn FC VA vn VC op (some ad) n c nm v W ∧ THeld w FA fn FC VA vn VC ad n c p0 A0 n0 c0 m0 y0 W)) (by kernel_rfl) (hS0) (fun hHeld => ?_)
        refine tk 0 ?_
        (try simp only [Act.put, sA, sB, sC])
        refine tk 1 ?_
        (try simp only [Act.put, sA, sB, sC])
        refine tk 2 ?_
        (try simp only [Act.put, sA, sB, sC])
        refine tk 3 ?_
        (try simp only [Act.put, sA, sB, sC])
        refine tk 4 ?_
        (try simp only [Act.put, sA, sB, sC])
        refine wpAnyH_ready (rs := [5, 6]) (by kernel_rfl) (by simp) ?_
        refine AllReadyH.cons (o := ?o235) ?g235 (fun K hK => ?j235) (AllReadyH.cons (o := ?o236) ?g236 (fun K hK => ?j236) AllReadyH.nil)
        case g235 => (simp only [gA, gB, gC]; rfl)
        case g236 => (simp only [gA, gB, gC]; rfl)
        · go_simp
          refine (H0.out _ (And.left (And.left hHeld))).mono ?_; rintro e wA ⟨rfl, hbA⟩; have hSA := HKP.out _ _ hHeld hbA
          refine hK.out _ _ ?_ (fun hHeld => ?_)
          · (try dsimp only); exact hSA
          clear hK K
          (try simp only [Act.put, sA, sB, sC])
          refine wpAnyH_ready (rs := [6]) (by kernel_rfl) (by simp) ?_
          refine AllReadyH.cons (o := ?o237) ?g237 (fun K hK => ?j237) AllReadyH.nil
          case g237 => (simp only [gA, gB, gC]; rfl)
          go_simp
          refine hK.out _ _ ?_ (fun hHeld => ?_)
          · (try dsimp only); exact HKP.out _ _ hSA (alloc1 _ _)
          clear hK K
          (try simp only [Act.put, sA, sB, sC])
          refine wpAnyH_ready (rs := [7]) (by kernel_rfl) (by simp) ?_
          refine AllReadyH.cons (o := ?o238) ?g238 (fun K hK => ?j238) AllReadyH.nil
          case g238 => (simp only [gA, gB, gC]; rfl)
          go_simp
          refine hK.out _ _ ?_ (fun hHeld => ?_)
          · (try dsimp only); exact HKP.out _ _ hSA (alloc1 _ _)
          clear hK K
          (try simp only [Act.put, sA, sB, sC])
          refine wpAnyH_done (by kernel_rfl) ?_ _
          go_wp2_with fail
          go_meet
          exact ⟨_, rfl, hSA.1.2.1, hHeld.1, Bx.new _ r1⟩
        · go_simp
          refine hK.out _ _ ?_ (fun hHeld => ?_)
          · (try dsimp only); exact HKP.out _ _ hS0 (alloc1 _ _)
          clear hK K
          (try simp only [Act.put, sA, sB, sC])
          refine wpAnyH_ready (rs := [5]) (by kernel_rfl) (by simp) ?_
          refine AllReadyH.cons (o := ?o239) ?g239 (fun K hK => ?j239) AllReadyH.nil
          case g239 => (simp only [gA, gB, gC]; rfl)
          go_simp
          refine (H0.out _ (And.left (And.left hHeld))).mono ?_; rintro e wA ⟨rfl, hbA⟩; have hSA := HKP.out _ _ hHeld hbA; obtain ⟨e0, e1, e2, e3, e4, ef⟩ := newcells hbA
          refine hK.out _ _ ?_ (fun hHeld => ?_)
          · (try dsimp only); exact hSA
          clear hK K
          (try simp only [Act.put, sA, sB, sC])
          refine wpAnyH_ready (rs := [7]) (by kernel_rfl) (by simp) ?_
          refine AllReadyH.cons (o := ?o240) ?g240 (fun K hK => ?j240) AllReadyH.nil
          case g240 => (simp only [gA, gB, gC]; rfl)
          go_simp
          refine hK.out _ _ ?_ (fun hHeld => ?_)
          · (try dsimp only); exact HKS.out _ _ _ _ _ _ _ htb.2.1 hSA
          clear hK K
          (try simp only [Act.put, sA, sB, sC])
          refine wpAnyH_done (by kernel_rfl) ?_ _
          go_wp2_with fail
          go_meet
          exact ⟨_, rfl, htb.2.1, hHeld.1, bx_set e0 e1 e2 e3 e4⟩
      case rest =>
        clear htb HHELD HKP HKS
        obtain ⟨b, rfl, hbge, hTB, hx0, hx1, hx2, hx3, hx4⟩ := hcut
        obtain ⟨d0, d1, d2, d3, d4, d5, d6, d7⟩ := hTB.2.2.2.2.1
        have g0 := hTB.2.2.1
        have g1 := hTB.2.2.2.1
        have HT := Lib.hid (fun W (hb : TC w FA fn FC VA vn VC op (some ad) n c nm v W) => (show THeldK w FA fn FC VA vn VC op ad n c ⟨ad.block, ad.off + 8, none⟩ p1 A1 n1 c1 m1 y1 W from let q := HQ1.out W hb.1; ⟨hb.2.2.1, hb.2.2.2.1, hb.2.2.2.2.1, hb.2.2.2.2.2.1, q.1, q.2.1, q.2.2.1, q.2.2.2.1, q.2.2.2.2.1, q.2.2.2.2.2.1, q.2.2.2.2.2.2.1, q.2.2.2.2.2.2.2⟩))
        have HK1 := Lib.hid (fun (W W' : World) (h : (TC w FA fn FC VA vn VC op (some ad) n c nm v W ∧ THeldK w FA fn FC VA vn VC op ad n c ⟨ad.block, ad.off + 8, none⟩ p1 A1 n1 c1 m1 y1 W ∧ W.cell? ⟨b, 0, none⟩ = some (.int .i64 r1.k) ∧ W.cell? ⟨b, 1, none⟩ = some (.int .i64 r1.i) ∧ W.cell? ⟨b, 2, none⟩ = some (.bool r1.b) ∧ W.cell? ⟨b, 3, none⟩ = some (.string r1.s) ∧ W.cell? ⟨b, 4, none⟩ = some (.float .f64 r1.n))) (hb : Below W.heap.size W W') => (show (TC w FA fn FC VA vn VC op (some ad) n c nm v W' ∧ THeldK w FA fn FC VA vn VC op ad n c ⟨ad.block, ad.off + 8, none⟩ p1 A1 n1 c1 m1 y1 W' ∧ W'.cell? ⟨b, 0, none⟩ = some (.int .i64 r1.k) ∧ W'.cell? ⟨b, 1, none⟩ = some (.int .i64 r1.i) ∧ W'.cell? ⟨b, 2, none⟩ = some (.bool r1.b) ∧ W'.cell? ⟨b, 3, none⟩ = some (.string r1.s) ∧ W'.cell? ⟨b, 4, none⟩ = some (.float .f64 r1.n)) from ⟨h.1.below2 (hb.mono h.1.2.1), HT.out _ (h.1.below2 (hb.mono h.1.2.1)), ((show Bx W b r1 from h.2.2).below hb)⟩))
        have HKZ := Lib.hid (fun (W : World) (u0 u1 u2 u3 u4 : Value) (h : (TC w FA fn FC VA vn VC op (some ad) n c nm v W ∧ THeldK w FA fn FC VA vn VC op ad n c ⟨ad.block, ad.off + 8, none⟩ p1 A1 n1 c1 m1 y1 W ∧ W.cell? ⟨b, 0, none⟩ = some (.int .i64 r1.k) ∧ W.cell? ⟨b, 1, none⟩ = some (.int .i64 r1.i) ∧ W.cell? ⟨b, 2, none⟩ = some (.bool r1.b) ∧ W.cell? ⟨b, 3, none⟩ = some (.string r1.s) ∧ W.cell? ⟨b, 4, none⟩ = some (.float .f64 r1.n))) => let hb := below_set5 (Below.refl (w.heap.size + 2) W) (show w.heap.size + 2 ≤ w.heap.size + 1 + 1 by omega) u0 u1 u2 u3 u4; (show (TC w FA fn FC VA vn VC op (some ad) n c nm v (((((W.setCell ⟨w.heap.size + 1 + 1, 0, none⟩ u0).setCell ⟨w.heap.size + 1 + 1, 1, none⟩ u1).setCell ⟨w.heap.size + 1 + 1, 2, none⟩ u2).setCell ⟨w.heap.size + 1 + 1, 3, none⟩ u3).setCell ⟨w.heap.size + 1 + 1, 4, none⟩ u4) ∧ THeldK w FA fn FC VA vn VC op ad n c ⟨ad.block, ad.off + 8, none⟩ p1 A1 n1 c1 m1 y1 (((((W.setCell ⟨w.heap.size + 1 + 1, 0, none⟩ u0).setCell ⟨w.heap.size + 1 + 1, 1, none⟩ u1).setCell ⟨w.heap.size + 1 + 1, 2, none⟩ u2).setCell ⟨w.heap.size + 1 + 1, 3, none⟩ u3).setCell ⟨w.heap.size + 1 + 1, 4, none⟩ u4) ∧ (((((W.setCell ⟨w.heap.size + 1 + 1, 0, none⟩ u0).setCell ⟨w.heap.size + 1 + 1, 1, none⟩ u1).setCell ⟨w.heap.size + 1 + 1, 2, none⟩ u2).setCell ⟨w.heap.size + 1 + 1, 3, none⟩ u3).setCell ⟨w.heap.size + 1 + 1, 4, none⟩ u4).cell? ⟨b, 0, none⟩ = some (.int .i64 r1.k) ∧ (((((W.setCell ⟨w.heap.size + 1 + 1, 0, none⟩ u0).setCell ⟨w.heap.size + 1 + 1, 1, none⟩ u1).setCell ⟨w.heap.size + 1 + 1, 2, none⟩ u2).setCell ⟨w.heap.size + 1 + 1, 3, none⟩ u3).setCell ⟨w.heap.size + 1 + 1, 4, none⟩ u4).cell? ⟨b, 1, none⟩ = some (.int .i64 r1.i) ∧ (((((W.setCell ⟨w.heap.size + 1 + 1, 0, none⟩ u0).setCell ⟨w.heap.size + 1 + 1, 1, none⟩ u1).setCell ⟨w.heap.size + 1 + 1, 2, none⟩ u2).setCell ⟨w.heap.size + 1 + 1, 3, none⟩ u3).setCell ⟨w.heap.size + 1 + 1, 4, none⟩ u4).cell? ⟨b, 2, none⟩ = some (.bool r1.b) ∧ (((((W.setCell ⟨w.heap.size + 1 + 1, 0, none⟩ u0).setCell ⟨w.heap.size + 1 + 1, 1, none⟩ u1).setCell ⟨w.heap.size + 1 + 1, 2, none⟩ u2).setCell ⟨w.heap.size + 1 + 1, 3, none⟩ u3).setCell ⟨w.heap.size + 1 + 1, 4, none⟩ u4).cell? ⟨b, 3, none⟩ = some (.string r1.s) ∧ (((((W.setCell ⟨w.heap.size + 1 + 1, 0, none⟩ u0).setCell ⟨w.heap.size + 1 + 1, 1, none⟩ u1).setCell ⟨w.heap.size + 1 + 1, 2, none⟩ u2).setCell ⟨w.heap.size + 1 + 1, 3, none⟩ u3).setCell ⟨w.heap.size + 1 + 1, 4, none⟩ u4).cell? ⟨b, 4, none⟩ = some (.float .f64 r1.n)) from ⟨h.1.below2 hb, HT.out _ (h.1.below2 hb), bx_off (show Bx W b r1 from h.2.2) (by omega) u0 u1 u2 u3 u4⟩))
        have hS1 : (fun W => (TC w FA fn FC VA vn VC op (some ad) n c nm v W ∧ THeldK w FA fn FC VA vn VC op ad n c ⟨ad.block, ad.off + 8, none⟩ p1 A1 n1 c1 m1 y1 W ∧ W.cell? ⟨b, 0, none⟩ = some (.int .i64 r1.k) ∧ W.cell? ⟨b, 1, none⟩ = some (.int .i64 r1.i) ∧ W.cell? ⟨b, 2, none⟩ = some (.bool r1.b) ∧ W.cell? ⟨b, 3, none⟩ = some (.string r1.s) ∧ W.cell? ⟨b, 4, none⟩ = some (.float .f64 r1.n))) wc.drew := ⟨hTB.tc.below2 (Below.refl _ _).drew, HT.out _ (hTB.tc.below2 (Below.refl _ _).drew), hx0, hx1, hx2, hx3, hx4⟩
        have HTB := Lib.hid hTB
        go_wp2_with fail
        refine wp_region_held_drew (S := (fun W => (TC w FA fn FC VA vn VC op (some ad) n c nm v W ∧ THeldK w FA fn FC VA vn VC op ad n c ⟨ad.block, ad.off + 8, none⟩ p1 A1 n1 c1 m1 y1 W ∧ W.cell? ⟨b, 0, none⟩ = some (.int .i64 r1.k) ∧ W.cell? ⟨b, 1, none⟩ = some (.int .i64 r1.i) ∧ W.cell? ⟨b, 2, none⟩ = some (.bool r1.b) ∧ W.cell? ⟨b, 3, none⟩ = some (.string r1.s) ∧ W.cell? ⟨b, 4, none⟩ = some (.float .f64 r1.n)))) (by kernel_rfl) (hS1) (fun hHeld => ?_)
        refine tk 0 ?_
        (try simp only [Act.put, sA, sB, sC])
        refine tk 1 ?_
        (try simp only [Act.put, sA, sB, sC])
        refine tk 2 ?_
        (try simp only [Act.put, sA, sB, sC])
        refine tk 3 ?_
        (try simp only [Act.put, sA, sB, sC])
        refine tk 4 ?_
        (try simp only [Act.put, sA, sB, sC])
        refine tk 5 ?_
        (try simp only [Act.put, sA, sB, sC])
        refine tk 6 ?_
        (try simp only [Act.put, sA, sB, sC])
        refine tk 7 ?_
        (try simp only [Act.put, sA, sB, sC])
        refine wpAnyH_ready (rs := [8]) (by kernel_rfl) (by simp) ?_
        refine AllReadyH.cons (o := ?o208) ?g208 (fun K hK => ?j208) AllReadyH.nil
        case g208 => (simp only [gA, gB, gC]; rfl)
        go_simp
        refine (H1.out _ hHeld.1.1).mono ?_; rintro e w2 ⟨rfl, hb2⟩
        exact ⟨rfl, (if_neg HZ1.out).symm, ((HTB.out.below (Below.refl _ _).drew).below hb2).1⟩
  · have h0 := fun W hb => (H0.out W hb).mono (fun e w' h => (⟨h.1.trans (if_neg hz), h.2⟩ : e = .panicked (PV r2) ∧ Below W.heap.size W w'))
    clear H0
    have H0 := Lib.hid h0
    have HZ := Lib.hid hz
    rw [if_pos hz]
    clear h0 hv0 hz
    have htb : TB w FA fn FC VA vn VC op (some ad) n c nm v (((w.alloc (.cells #[.slice FA fn FC, .slice VA vn VC] 247)).alloc (.cells #[.int .i64 op, .slice (some ad) n c, .string nm, .int .i64 v.k, .int .i64 v.i, .bool v.b, .string v.s, .float .f64 v.n] 77)).alloc (.cells #[.int .i64 0, .int .i64 0, .bool false, .string { data := #[] }, .float .f64 0] 55)) := TB_new w FA fn FC VA vn VC op (some ad) n c nm v
    have HHELD := Lib.hid (fun W (hb : TB w FA fn FC VA vn VC op (some ad) n c nm v W) => (show THeld w FA fn FC VA vn VC ad n c p0 A0 n0 c0 m0 y0 W from let q := hq0 W hb.1; ⟨hb.2.2.1, hb.2.2.2.1, hb.2.2.2.2.1.2.1, q.1, q.2.1, q.2.2.1, q.2.2.2.1, q.2.2.2.2.1, q.2.2.2.2.2.1, q.2.2.2.2.2.2.1, q.2.2.2.2.2.2.2⟩))
    clear hq0
    have HKP := Lib.hid (fun (W W' : World) (h : TB w FA fn FC VA vn VC op (some ad) n c nm v W ∧ THeld w FA fn FC VA vn VC ad n c p0 A0 n0 c0 m0 y0 W) (hb : Below W.heap.size W W') => And.intro (h.1.below hb) (HHELD.out _ (h.1.below hb)))
    have HKS := Lib.hid (fun (W : World) (b : Nat) (u0 u1 u2 u3 u4 : Value) (hge : w.heap.size + 3 ≤ b) (h : TB w FA fn FC VA vn VC op (some ad) n c nm v W ∧ THeld w FA fn FC VA vn VC ad n c p0 A0 n0 c0 m0 y0 W) => let hb := below_set5 (Below.refl (w.heap.size + 3) W) hge u0 u1 u2 u3 u4; And.intro (h.1.below3 hb) (HHELD.out _ (h.1.below3 hb)))
    go_enter Tryz.func256, Tryz.ntmps256
    go_upto_region 6 with fail
    generalize ((w.alloc (.cells #[.slice FA fn FC, .slice VA vn VC] 247)).alloc (.cells #[.int .i64 op, .slice (some ad) n c, .string nm, .int .i64 v.k, .int .i64 v.i, .bool v.b, .string v.s, .float .f64 v.n] 77)).alloc (.cells #[.int .i64 0, .int .i64 0, .bool false, .string { data := #[] }, .float .f64 0] 55) = wb at *
    have hS0 : TB w FA fn FC VA vn VC op (some ad) n c nm v wb.drew ∧ THeld w FA fn FC VA vn VC ad n c p0 A0 n0 c0 m0 y0 wb.drew := ⟨htb.below (Below.refl _ _).drew, HHELD.out _ (htb.below (Below.refl _ _).drew)⟩
    refine wp_region_held_drew (S := (fun W => TB w FA fn FC VA vn VC op (some ad) n c nm v W ∧ THeld w FA fn FC VA vn VC ad n c p0 A0 n0 c0 m0 y0 W)) (by kernel_rfl) (hS0) (fun hHeld => ?_)
    refine tk 0 ?_
    (try simp only [Act.put, sA, sB, sC])
    refine tk 1 ?_
    (try simp only [Act.put, sA, sB, sC])
    refine tk 2 ?_
    (try simp only [Act.put, sA, sB, sC])
    refine tk 3 ?_
    (try simp only [Act.put, sA, sB, sC])
    refine tk 4 ?_
    (try simp only [Act.put, sA, sB, sC])
    refine wpAnyH_ready (rs := [5, 6]) (by kernel_rfl) (by simp) ?_
    refine AllReadyH.cons (o := ?o268) ?g268 (fun K hK => ?j268) (AllReadyH.cons (o := ?o269) ?g269 (fun K hK => ?j269) AllReadyH.nil)
    case g268 => (simp only [gA, gB, gC]; rfl)
    case g269 => (simp only [gA, gB, gC]; rfl)
    · go_simp
      refine (H0.out _ (And.left (And.left hHeld))).mono ?_; rintro e wA ⟨rfl, hbA⟩
      exact ⟨rfl, (if_neg HZ.out).symm, (And.left (And.left hHeld)).trans (hbA.mono (And.left (And.left hHeld)).size)⟩
    · go_simp
      refine hK.out _ _ ?_ (fun hHeld => ?_)
      · (try dsimp only); exact HKP.out _ _ hS0 (alloc1 _ _)
      clear hK K
      (try simp only [Act.put, sA, sB, sC])
      refine wpAnyH_ready (rs := [5]) (by kernel_rfl) (by simp) ?_
      refine AllReadyH.cons (o := ?o270) ?g270 (fun K hK => ?j270) AllReadyH.nil
      case g270 => (simp only [gA, gB, gC]; rfl)
      go_simp
      refine (H0.out _ (And.left (And.left hHeld))).mono ?_; rintro e wA ⟨rfl, hbA⟩
      exact ⟨rfl, (if_neg HZ.out).symm, (And.left (And.left hHeld)).trans (hbA.mono (And.left (And.left hHeld)).size)⟩

set_option maxHeartbeats 600000 in
theorem tell_1 (FA : Option Addr) (fn FC : Nat) (VA : Option Addr) (vn VC : Nat) (A : Option Addr) (n c : Nat) (nm : ByteArray) (v : Vl) (w : World) :
    Calls Tryz.prog 256 #[agR FA fn FC VA vn VC, agX 1 A n c nm v] w (TellP (v, 0) w) := by
  have hsf := fun (w : World) (a : Addr) (m : Mode) (b : Nat) => run_store Tryz.prog w a (.float .f64 b) m rfl
  go_enter Tryz.func256, Tryz.ntmps256
  go_wp2
  exact bodyPost_ret (v := agV v) (by simp [results, Tryz.results256, go_sem]) rfl ⟨rfl, vbox3 w _ _ _⟩
set_option maxHeartbeats 600000 in
theorem tell_2 (FA : Option Addr) (fn FC : Nat) (vad : Addr) (vn VC : Nat) (A : Option Addr) (n c : Nat) (nm : ByteArray) (v y : Vl) (w : World) (j : Nat) (q : Addr) (hqd : vad.add (j * 5) = q) (hj : j < vn)
    (hp : ∀ W, Below w.heap.size w W → Calls Tryz.prog 267 #[.string nm, .slice FA fn FC] W (VMk (.int .i64 (j : Int)) W)) (hv : ∀ W, Below w.heap.size w W → Vlp W q y) :
    Calls Tryz.prog 256 #[agR FA fn FC (some vad) vn VC, agX 2 A n c nm v] w (TellP (y, 0) w) := by
  have hsf := fun (w : World) (a : Addr) (m : Mode) (b : Nat) => run_store Tryz.prog w a (.float .f64 b) m rfl
  have hi : (0 : Int) ≤ (j : Int) ∧ (j : Int) < (vn : Int) := by omega
  have hj2 : (j : Int) < (vn : Int) := by omega
  have HP := Lib.hid hp
  obtain ⟨VA, hVA⟩ : ∃ VA : Option Addr, VA = some vad := ⟨_, rfl⟩
  have htb : TB w FA fn FC (some vad) vn VC 2 A n c nm v (((w.alloc (.cells #[.slice FA fn FC, .slice (some vad) vn VC] 247)).alloc (.cells #[.int .i64 2, .slice A n c, .string nm, .int .i64 v.k, .int .i64 v.i, .bool v.b, .string v.s, .float .f64 v.n] 77)).alloc (.cells #[.int .i64 0, .int .i64 0, .bool false, .string { data := #[] }, .float .f64 0] 55)) := TB_new w FA fn FC (some vad) vn VC 2 A n c nm v
  clear hVA VA
  have HT := Lib.hid (fun W (hb : TC w FA fn FC (some vad) vn VC 2 A n c nm v W) => (show (TC w FA fn FC (some vad) vn VC 2 A n c nm v W ∧ W.cell? ⟨w.heap.size, 0, none⟩ = some (.slice FA fn FC) ∧ W.cell? ⟨w.heap.size, 1, none⟩ = some (.slice (some vad) vn VC) ∧ W.cell? ⟨w.heap.size + 1, 2, none⟩ = some (.string nm) ∧ W.cell? q = some (.int .i64 y.k) ∧ W.cell? ⟨q.block, q.off + 1, none⟩ = some (.int .i64 y.i) ∧ W.cell? ⟨q.block, q.off + 2, none⟩ = some (.bool y.b) ∧ W.cell? ⟨q.block, q.off + 3, none⟩ = some (.string y.s) ∧ W.cell? ⟨q.block, q.off + 4, none⟩ = some (.float .f64 y.n)) from ⟨hb, hb.2.2.1, hb.2.2.2.1, hb.2.2.2.2.2.2.1, hv W hb.1⟩))
  clear hp hv
  go_enter Tryz.func256, Tryz.ntmps256
  go_upto_region 5 with fail
  generalize ((w.alloc (.cells #[.slice FA fn FC, .slice (some vad) vn VC] 247)).alloc (.cells #[.int .i64 2, .slice A n c, .string nm, .int .i64 v.k, .int .i64 v.i, .bool v.b, .string v.s, .float .f64 v.n] 77)).alloc (.cells #[.int .i64 0, .int .i64 0, .bool false, .string { data := #[] }, .float .f64 0] 55) = wb at *
  have HTB := Lib.hid htb
  have hS1 : (fun W => TC w FA fn FC (some vad) vn VC 2 A n c nm v W ∧ W.cell? ⟨w.heap.size, 0, none⟩ = some (.slice FA fn FC) ∧ W.cell? ⟨w.heap.size, 1, none⟩ = some (.slice (some vad) vn VC) ∧ W.cell? ⟨w.heap.size + 1, 2, none⟩ = some (.string nm) ∧ W.cell? q = some (.int .i64 y.k) ∧ W.cell? ⟨q.block, q.off + 1, none⟩ = some (.int .i64 y.i) ∧ W.cell? ⟨q.block, q.off + 2, none⟩ = some (.bool y.b) ∧ W.cell? ⟨q.block, q.off + 3, none⟩ = some (.string y.s) ∧ W.cell? ⟨q.block, q.off + 4, none⟩ = some (.float .f64 y.n)) wb.drew := HT.out _ (htb.tc.below2 (Below.refl _ _).drew)
  clear htb
  refine wp_region_held_drew (S := (fun W => TC w FA fn FC (some vad) vn VC 2 A n c nm v W ∧ W.cell? ⟨w.heap.size, 0, none⟩ = some (.slice FA fn FC) ∧ W.cell? ⟨w.heap.size, 1, none⟩ = some (.slice (some vad) vn VC) ∧ W.cell? ⟨w.heap.size + 1, 2, none⟩ = some (.string nm) ∧ W.cell? q = some (.int .i64 y.k) ∧ W.cell? ⟨q.block, q.off + 1, none⟩ = some (.int .i64 y.i) ∧ W.cell? ⟨q.block, q.off + 2, none⟩ = some (.bool y.b) ∧ W.cell? ⟨q.block, q.off + 3, none⟩ = some (.string y.s) ∧ W.cell? ⟨q.block, q.off + 4, none⟩ = some (.float .f64 y.n))) (by kernel_rfl) (hS1) (fun hHeld => ?_)
  refine tk 0 ?_
  (try simp only [Act.put, sA, sB, sC])
  refine tk 1 ?_
  (try simp only [Act.put, sA, sB, sC])
  refine tk 2 ?_
  (try simp only [Act.put, sA, sB, sC])
  refine tk 3 ?_
  (try simp only [Act.put, sA, sB, sC])
  refine tk 4 ?_
  (try simp only [Act.put, sA, sB, sC])
  refine tk 5 ?_
  (try simp only [Act.put, sA, sB, sC])
  refine wpAnyH_ready (rs := [6]) (by kernel_rfl) (by simp) ?_
  refine AllReadyH.cons (o := ?o7) ?g7 (fun K hK => ?j7) AllReadyH.nil
  case g7 => (simp only [gA, gB, gC]; rfl)
  go_simp
  refine (HP.out _ hHeld.1.1).mono ?_; rintro e w2 ⟨rfl, hb2⟩; obtain ⟨ou0, ou1, ou2, ou3, ou4, ov0, ov1, ov2, ov3, ov4, ovf⟩ := TB.out ((HTB.out.below (Below.refl _ _).drew).below hb2)
  refine hK.out _ _ ?_ (fun hHeld => ?_)
  · (try dsimp only); exact HT.out _ (hHeld.1.below2 (hb2.mono hHeld.1.2.1))
  clear hK K
  (try simp only [Act.put, sA, sB, sC])
  refine tk 7 ?_
  (try simp only [Act.put, sA, sB, sC])
  refine tk 8 ?_
  (try simp only [Act.put, sA, sB, sC])
  refine wpAnyH_ready (rs := [9]) (by kernel_rfl) (by simp) ?_
  refine AllReadyH.cons (o := ?o9) ?g9 (fun K hK => ?j9) AllReadyH.nil
  case g9 => (simp only [gA, gB, gC]; rfl)
  go_simp
  refine hK.out _ _ ?_ (fun hHeld => ?_)
  · (try dsimp only); exact HT.out _ (hHeld.1.below2 (below_set5 (Below.refl _ _) (by omega) _ _ _ _ _))
  clear hK K
  (try simp only [Act.put, sA, sB, sC])
  refine wpAnyH_done (by kernel_rfl) ?_ _
  go_wp2_with fail
  exact bodyPost_ret (v := agV y) (by simp [results, Tryz.results256, go_sem, ov0, ov1, ov2, ov3, ov4]) rfl ⟨rfl, TB.done ((HTB.out.below (Below.refl _ _).drew).below hb2) _ _ _ _ _⟩

end Go.Proofs.YtachhcabgggimaaGreat
