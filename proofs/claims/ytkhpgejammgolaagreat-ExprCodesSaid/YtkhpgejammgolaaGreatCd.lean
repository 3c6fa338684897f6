/- Cd: EAw0 EArgs (made by shake.py). -/
import Derived.Test.YtkhpgejammgolaaGreatCc
/- Layer 5: chapter 5's examples by definition; expressions that are built. -/
namespace Go.Proofs.YtkhpgejammgolaaGreat
open Go.RowKit
set_option linter.unusedVariables false
set_option linter.unusedSimpArgs false
set_option maxRecDepth 20000

def fA : Ex := .mk 2 ⟨#[97]⟩ vZero []
def fsA : List Fd := [⟨⟨#[97]⟩, 1⟩]
theorem find_a : findX ⟨#[97]⟩ fsA 0 = 0 := by
  unfold findX fsA
  exact if_pos (beq_self_eq_true _)
theorem form_a : formB fA = true := by
  unfold formB
  rw [show fA.op = 2 from rfl, show fA.val = vZero from rfl, show fA.kids = [] from rfl, show sameV vZero vZero = true from same_zero]
  rfl
theorem chk_a (d : Nat) : chkX (d + 1) fA fsA = (1, 0) := by
  show kindX fA [] fsA = (1, 0)
  rw [kindX_field fA [] fsA form_a rfl]
  unfold fieldX
  rw [show fA.name = ⟨#[97]⟩ from rfl, find_a]
  rfl
theorem ev_a (d : Nat) (v : Vl) : evX (d + 1) fA fsA [v] = (v, 0) := by
  rw [evX, if_neg (show ¬ fA.op = 1 by decide), if_pos (show fA.op = 2 from rfl), show fA.name = ⟨#[97]⟩ from rfl, find_a]
  rfl
theorem fit_a : fitX fsA [vInt 2] = true := fit_all fsA [vInt 2] rfl (fun j hj hj' => by
  have : j = 0 := by have : j < 1 := hj; omega
  subst this
  show (goodV (vInt 2) && ((1 : Int) == 1)) = true
  rw [good_int]; rfl)
theorem sm_1 : smallX (opX 4 [fA, conX (vInt 1)]) = true := rfl
theorem sm_2 : smallX (opX 9 [fA, conX (vNum 4609434218613702656)]) = true := rfl
theorem sm_3 : smallX (opX 10 [conX (vTruth false), nought]) = true := rfl
theorem sm_4 : smallX (opX 7 [conX (vInt 1), conX (vInt 0)]) = true := rfl
theorem ck_1 : checkX (opX 4 [fA, conX (vInt 1)]) fsA = (1, 0) := by
  unfold checkX
  rw [sm_1, if_pos rfl]
  refine chk_op (d := 5) (chkL_cons (chk_a 4) (chkL_cons (chk_con 4 _ fsA (good_int 1)) rfl)) ?_
  unfold kindX
  rw [if_neg (form_op (by decide))]
  rfl
theorem ck_2 : checkX (opX 9 [fA, conX (vNum 4609434218613702656)]) fsA = (0, 40) := by
  unfold checkX
  rw [sm_2, if_pos rfl]
  refine chk_op (d := 5) (chkL_cons (chk_a 4) (chkL_cons (chk_con 4 _ fsA (good_num _)) rfl)) ?_
  unfold kindX
  rw [if_neg (form_op (by decide))]
  rfl
theorem ck_3 : checkX (opX 10 [conX (vTruth false), nought]) [] = (2, 0) := by
  unfold checkX
  rw [sm_3, if_pos rfl]
  refine chk_op (d := 5) (chkL_cons (chk_con 4 _ [] (good_truth false)) (chkL_cons (chk_nought 2 []) rfl)) ?_
  exact kind_or _ 10 [] (.inl rfl) rfl
theorem ck_4 : checkX (opX 7 [conX (vInt 1), conX (vInt 0)]) [] = (1, 0) := by
  unfold checkX
  rw [sm_4, if_pos rfl]
  exact chk_op (d := 5) (chkL_cons (chk_con 4 _ [] (good_int 1)) (chkL_cons (chk_con 4 _ [] (good_int 0)) rfl)) (kind_div [])
theorem aw_1 : evalP (opX 4 [fA, conX (vInt 1)]) fsA [vInt 2] = (vInt 3, 0) := by
  unfold evalP
  rw [ck_1, if_neg (fun h => h rfl), fit_a, if_pos rfl, evX_two (e := opX 4 [fA, conX (vInt 1)]) rfl (.inl rfl), ev_a, ev_con, if_neg (fun h => h rfl), if_neg (fun h => h rfl), if_neg (by decide), if_neg (by decide)]
  have : reckV 4 (vInt 2) (vInt 1) = (vInt 3, 0) := by unfold reckV; rw [like_int]; rfl
  show endV (reckV 4 (vInt 2) (vInt 1)) = _
  rw [this]; rfl
theorem aw_3 : evalP (opX 10 [conX (vTruth false), nought]) [] [] = (vTruth false, 0) := by
  unfold evalP
  rw [ck_3, if_neg (fun h => h rfl), show fitX [] [] = true from rfl, if_pos rfl, evX_lazy (e := opX 10 [conX (vTruth false), nought]) rfl (.inl rfl), ev_con, if_neg (fun h => h rfl)]
  rfl
theorem aw_4 : evalP (opX 7 [conX (vInt 1), conX (vInt 0)]) [] [] = (vZero, 42) := by
  unfold evalP
  rw [ck_4, if_neg (fun h => h rfl), show fitX [] [] = true from rfl, if_pos rfl, evX_two (e := opX 7 [conX (vInt 1), conX (vInt 0)]) rfl (by decide), ev_con, ev_con, if_neg (fun h => h rfl), if_neg (fun h => h rfl), if_neg (by decide), if_neg (by decide)]
  show endV (reckV 7 (vInt 1) (vInt 0)) = _
  rw [ex6]; rfl
theorem aw_2 : checkX (opX 9 [fA, conX (vNum 4609434218613702656)]) fsA = (0, 40) := ck_2

/-! in memory -/
/-- e lies there to some depth -/
def ExE (w : World) (A : Option Addr) (c : Nat) (e : Ex) : Prop := ∃ D, ExK w D A c e
theorem ExK.more {w : World} : ∀ {D : Nat} {A : Option Addr} {c : Nat} {e : Ex}, ExK w D A c e → ExK w (D + 1) A c e
  | 0, _, _, _, h => False.elim h
  | D + 1, A, c, e, h => by
    obtain ⟨h1, h2, h3, h4⟩ := h
    refine ⟨h1, h2, h3, fun j hj => ?_⟩
    obtain ⟨ad, A', c', e1, e2, e3, e4⟩ := h4 j hj
    exact ⟨ad, A', c', e1, e2, e3, ExK.more e4⟩
theorem ExK.upto {w : World} {D : Nat} {A : Option Addr} {c : Nat} {e : Ex} (h : ExK w D A c e) : ∀ n, ExK w (D + n) A c e
  | 0 => h
  | n + 1 => (ExK.upto h n).more
theorem ExE.below {w w' : World} {A : Option Addr} {c : Nat} {e : Ex} (h : ExE w A c e) (hb : Below w.heap.size w w') : ExE w' A c e := let ⟨D, h⟩ := h; ⟨D, h.below hb (Nat.le_refl _)⟩
theorem ExE.leaf (w : World) (e : Ex) (h : e.kids = []) : ExE w none 0 e := ⟨1, ExK.leaf w 0 e h⟩
/-- eight cells of a row from cell i on -/
theorem kid_row (w : World) (g i : Nat) (cs : Array Value) (t : TypeId) (h : w.heap[g]? = some (.cells cs t (0, 0))) (op : Int) (A : Option Addr) (n c : Nat) (nm : ByteArray) (y : Vl)
    (h0 : cs[i]? = some (.int .i64 op)) (h1 : cs[i + 1]? = some (.slice A n c)) (h2 : cs[i + 2]? = some (.string nm)) (h3 : cs[i + 3]? = some (.int .i64 y.k)) (h4 : cs[i + 4]? = some (.int .i64 y.i)) (h5 : cs[i + 5]? = some (.bool y.b)) (h6 : cs[i + 6]? = some (.string y.s)) (h7 : cs[i + 7]? = some (.float .f64 y.n)) :
    Kid w ⟨g, i, none⟩ op A n c nm y :=
  ⟨(cell_of_row w g _ _ _ (0, 0) h).trans h0, (cell_of_row w g _ _ _ (0, 0) h).trans h1, (cell_of_row w g _ _ _ (0, 0) h).trans h2, (cell_of_row w g _ _ _ (0, 0) h).trans h3, (cell_of_row w g _ _ _ (0, 0) h).trans h4, (cell_of_row w g _ _ _ (0, 0) h).trans h5, (cell_of_row w g _ _ _ (0, 0) h).trans h6, (cell_of_row w g _ _ _ (0, 0) h).trans h7⟩
/-- two kids laid in a new row -/
abbrev row2 (p0 : Int) (A0 : Option Addr) (n0 c0 : Nat) (m0 : ByteArray) (y0 : Vl) (p1 : Int) (A1 : Option Addr) (n1 c1 : Nat) (m1 : ByteArray) (y1 : Vl) : Obj :=
  .cells #[.int .i64 p0, .slice A0 n0 c0, .string m0, .int .i64 y0.k, .int .i64 y0.i, .bool y0.b, .string y0.s, .float .f64 y0.n, .int .i64 p1, .slice A1 n1 c1, .string m1, .int .i64 y1.k, .int .i64 y1.i, .bool y1.b, .string y1.s, .float .f64 y1.n] 27
theorem ExE.two {w : World} {A0 A1 : Option Addr} {c0 c1 : Nat} {e0 e1 : Ex} (o : Int) (h0 : ExE w A0 c0 e0) (h1 : ExE w A1 c1 e1) :
    ExE (w.alloc (row2 e0.op A0 e0.kids.length c0 e0.name e0.val e1.op A1 e1.kids.length c1 e1.name e1.val)) (some ⟨w.heap.size, 0, none⟩) 2 (opX o [e0, e1]) := by
  obtain ⟨D0, h0⟩ := h0
  obtain ⟨D1, h1⟩ := h1
  have hn := heap_alloc_new w (row2 e0.op A0 e0.kids.length c0 e0.name e0.val e1.op A1 e1.kids.length c1 e1.name e1.val)
  have hb : Below w.heap.size w (w.alloc (row2 e0.op A0 e0.kids.length c0 e0.name e0.val e1.op A1 e1.kids.length c1 e1.name e1.val)) := alloc1 _ _
  have g0 := (h0.upto D1).below hb (Nat.le_refl _)
  have g1 := (h1.upto D0).below hb (Nat.le_refl _)
  rw [Nat.add_comm] at g1
  refine ⟨D0 + D1 + 1, Nat.le_refl _, by unfold maxLen; show 2 ≤ 2 ^ 63 - 1; omega, fun h => (by cases h), fun j hj => ?_⟩
  have hj2 : j < 2 := hj
  match j, hj2 with
  | 0, _ => exact ⟨_, A0, c0, rfl, by simp, by rw [Addr.add_lit]; exact kid_row _ _ _ _ _ hn _ _ _ _ _ _ rfl rfl rfl rfl rfl rfl rfl rfl, g0⟩
  | 1, _ => exact ⟨_, A1, c1, rfl, by simp, by rw [Addr.add_lit]; exact kid_row _ _ _ _ _ hn _ _ _ _ _ _ rfl rfl rfl rfl rfl rfl rfl rfl, g1⟩
theorem fdk_one (w : World) (nm : ByteArray) (fk : Int) (A : Option Addr) (n c : Nat) (y : Vl) : FdK (w.alloc (.cells #[.string nm, .int .i64 fk, .slice A n c, .int .i64 y.k, .int .i64 y.i, .bool y.b, .string y.s, .float .f64 y.n] 52)) (some ⟨w.heap.size, 0, none⟩) 1 [⟨nm, fk⟩] := by
  have h := heap_alloc_new w (.cells #[.string nm, .int .i64 fk, .slice A n c, .int .i64 y.k, .int .i64 y.i, .bool y.b, .string y.s, .float .f64 y.n] 52)
  refine ⟨Nat.le_refl _, by unfold maxLen; show 1 ≤ 2 ^ 63 - 1; omega, fun h => (by cases h), fun j hj => ?_⟩
  have hj2 : j < 1 := hj
  match j, hj2 with
  | 0, _ => exact ⟨_, A, n, c, y, rfl, by simp, by rw [Addr.add_lit]; exact ⟨(cell_of_row _ _ _ _ _ (0, 0) h).trans rfl, (cell_of_row _ _ _ _ _ (0, 0) h).trans rfl, (cell_of_row _ _ _ _ _ (0, 0) h).trans rfl, (cell_of_row _ _ _ _ _ (0, 0) h).trans rfl, (cell_of_row _ _ _ _ _ (0, 0) h).trans rfl, (cell_of_row _ _ _ _ _ (0, 0) h).trans rfl, (cell_of_row _ _ _ _ _ (0, 0) h).trans rfl, (cell_of_row _ _ _ _ _ (0, 0) h).trans rfl⟩⟩
theorem vlk_one (w : World) (y : Vl) : VlK (w.alloc (.cells #[.int .i64 y.k, .int .i64 y.i, .bool y.b, .string y.s, .float .f64 y.n] 25)) (some ⟨w.heap.size, 0, none⟩) 1 [y] := by
  have h := heap_alloc_new w (.cells #[.int .i64 y.k, .int .i64 y.i, .bool y.b, .string y.s, .float .f64 y.n] 25)
  refine ⟨Nat.le_refl _, by unfold maxLen; show 1 ≤ 2 ^ 63 - 1; omega, fun h => (by cases h), fun j hj => ?_⟩
  have hj2 : j < 1 := hj
  match j, hj2 with
  | 0, _ => exact ⟨_, rfl, by simp, by rw [Addr.add_lit]; exact ⟨(cell_of_row _ _ _ _ _ (0, 0) h).trans rfl, (cell_of_row _ _ _ _ _ (0, 0) h).trans rfl, (cell_of_row _ _ _ _ _ (0, 0) h).trans rfl, (cell_of_row _ _ _ _ _ (0, 0) h).trans rfl, (cell_of_row _ _ _ _ _ (0, 0) h).trans rfl⟩⟩
theorem fdk_none (w : World) : FdK w none 0 [] := ⟨Nat.le_refl _, Nat.zero_le _, fun _ => rfl, fun j hj => absurd hj (Nat.not_lt_zero _)⟩
theorem vlk_none (w : World) : VlK w none 0 [] := ⟨Nat.le_refl _, Nat.zero_le _, fun _ => rfl, fun j hj => absurd hj (Nat.not_lt_zero _)⟩
end Go.Proofs.YtkhpgejammgolaaGreat

/- Layer 5: the laws' arguments, opened. -/
namespace Go.Proofs.YtkhpgejammgolaaGreat
open Go.RowKit Go.ChangeShapes Go.WideShapes Go.ChangeAt
set_option linter.unusedVariables false
set_option linter.unusedSimpArgs false
set_option maxRecDepth 20000

section
variable {H : Type} {enc : TypeId × Value → H} {W : World} {sp : Nat → Bool} {hd : Bool} {base : Nat} {v : Value} {d : DataW H} {ps : List MemPlace}

theorem open_expr8 : ∀ (fuel : Nat) (cs : List Value) (x : DataW H × List MemPlace), DataW.trod enc Tryz.prog W 0 sp hd fuel 27 cs = some x → cs.length = 8 →
    ∃ (e : Ex) (A : Option Addr) (c D : Nat), cs = [.int .i64 e.op, .slice A e.kids.length c, .string e.name, .int .i64 e.val.k, .int .i64 e.val.i, .bool e.val.b, .string e.val.s, .float .f64 e.val.n] ∧ ExK W D A c e ∧ (∀ k, okX k e) := by
  intro fuel
  induction fuel using Nat.strongRecOn with
  | _ fuel ih =>
    intro cs x ht hlen
    obtain ⟨ys, m, hm, -, -, hys, hfs⟩ := DataW.trod_struct Tryz.underlying27 ht
    match cs, hlen with
    | [c0, c1, c2, c3, c4, c5, c6, c7], _ =>
      match ys, hys with
      | [y0, y1, y2, y3], _ =>
        have k1 : Tryz.prog.cellsOf 3 = 1 := by kernel_rfl
        have k2 : Tryz.prog.cellsOf 22 = 1 := by kernel_rfl
        have k3 : Tryz.prog.cellsOf 9 = 1 := by kernel_rfl
        have k4 : Tryz.prog.cellsOf 25 = 5 := by kernel_rfl
        have g0 := hfs 0 _ rfl
        have g1 := hfs 1 _ rfl
        have g2 := hfs 2 _ rfl
        have g3 := hfs 3 _ rfl
        simp [k1, k2, k3, k4] at g0 g1 g2 g3
        obtain ⟨z0, e0, -, w0⟩ := DataW.trod_int Tryz.underlying3 g0
        obtain ⟨z2, e2, -⟩ := DataW.trod_string Tryz.underlying9 g2
        obtain ⟨y, e3, hy⟩ := open_value5 g3 rfl
        simp at e0 e2 e3
        obtain ⟨e3, e4, e5, e6, e7⟩ := e3
        subst e0 e2 e3 e4 e5 e6 e7
        rcases DataW.trod_slice Tryz.underlying22 g1 with ⟨hc, -⟩ | ⟨a, len', cap', elems, rest, n, hn, hc, -, -, hl, hmx, hel, hx, -, -⟩
        · simp at hc
          subst hc
          refine ⟨.mk z0 z2 y [], none, 0, 1, rfl, ExK.leaf W 0 _ rfl, fun k => ?_⟩
          cases k with
          | zero => trivial
          | succ k => exact ⟨hy, in64_of w0, fun k hk => by cases hk⟩
        · simp at hc
          subst hc
          have h8 : Tryz.prog.cellsOf 27 = 8 := by kernel_rfl
          have each : ∀ i, i < len' → ∃ (q : Ex × Option Addr × Nat × Nat), Kid W (a.add (i * 8)) q.1.op q.2.1 q.1.kids.length q.2.2.1 q.1.name q.1.val ∧ ExK W q.2.2.2 q.2.1 q.2.2.1 q.1 ∧ (∀ k, okX k q.1) := by
            intro i hi
            have h1 := hx i hi
            rw [h8, List.getElem?_eq_getElem (by omega)] at h1
            obtain ⟨cs, hcs, ht⟩ := Option.bind_eq_some_iff.1 h1
            obtain ⟨-, hlen, hat⟩ := World.cells?_some hcs
            obtain ⟨e, A, c, D, hce, hk, hok⟩ := ih n (by omega) cs _ ht hlen
            subst hce
            have e0 := hat 0 (by omega)
            have e1 := hat 1 (by omega)
            have e2 := hat 2 (by omega)
            have e3 := hat 3 (by omega)
            have e4 := hat 4 (by omega)
            have e5 := hat 5 (by omega)
            have e6 := hat 6 (by omega)
            have e7 := hat 7 (by omega)
            exact ⟨(e, A, c, D), ⟨by simpa [Addr.add_zero'] using e0, by simpa [Addr.add_succ'] using e1, by simpa [Addr.add_succ'] using e2, by simpa [Addr.add_succ'] using e3, by simpa [Addr.add_succ'] using e4, by simpa [Addr.add_succ'] using e5, by simpa [Addr.add_succ'] using e6, by simpa [Addr.add_succ'] using e7⟩, hk, hok⟩
          have inst : Inhabited (Ex × Option Addr × Nat × Nat) := ⟨(.mk 0 ⟨#[]⟩ ⟨0, 0, false, ⟨#[]⟩, 0⟩ [], none, 0, 0)⟩
          obtain ⟨f, hf⟩ := Deep.choose_lt each
          have hup : ∀ i, i < len' → ExK W (((List.range len').map fun j => (f j).2.2.2).sum) (f i).2.1 (f i).2.2.1 (f i).1 := fun i hi => by
            have hle : ∀ (l : List Nat) (j : Nat), j ∈ l → (f j).2.2.2 ≤ (l.map fun j => (f j).2.2.2).sum := by
              intro l
              induction l with
              | nil => intro j hj; cases hj
              | cons a l ih2 =>
                intro j hj
                rw [List.map_cons, List.sum_cons]
                rcases List.mem_cons.1 hj with rfl | hj
                · omega
                · have := ih2 j hj; omega
            obtain ⟨m, hm⟩ := Nat.exists_eq_add_of_le (hle (List.range len') i (List.mem_range.2 hi))
            rw [hm]
            exact ExK.upto (hf i hi).2.1 m
          refine ⟨.mk z0 z2 y ((List.range len').map fun j => (f j).1), some a, cap', ((List.range len').map fun j => (f j).2.2.2).sum + 1, ?_, ?_, fun k => ?_⟩
          · simp [Ex.kids, Ex.op, Ex.name, Ex.val]
          · refine ⟨by simpa [Ex.kids] using hl, hmx, fun h => (by cases h), fun j hj => ?_⟩
            have hjl : j < len' := by simpa [Ex.kids] using hj
            have hk := (hf j hjl).1
            refine ⟨a, (f j).2.1, (f j).2.2.1, rfl, ?_, ?_, ?_⟩
            · have := cell_lt hk.1
              rwa [block_add] at this
            · simpa [Ex.kids] using hk
            · simpa [Ex.kids] using hup j hjl
          · cases k with
            | zero => trivial
            | succ k =>
              refine ⟨hy, in64_of w0, fun x hx => ?_⟩
              obtain ⟨j, hj, rfl⟩ := List.mem_map.1 hx
              exact (hf j (List.mem_range.1 hj)).2.2 k
theorem open_expr (hv : Value.okWide Tryz.prog W .any base 27 v) (h : DataW.Trod enc Tryz.prog W 0 sp hd 27 v d ps) : ∃ (e : Ex) (A : Option Addr) (c D : Nat), v = agX e.op A e.kids.length c e.name e.val ∧ ExK W D A c e ∧ (∀ k, okX k e) := by
  obtain ⟨cs, rfl, hsz⟩ := okWide_struct Tryz.underlying27 hv
  obtain ⟨fuel, hf⟩ := h
  have k0 : Tryz.prog.cellsOf 27 = 8 := by kernel_rfl
  rw [k0] at hsz
  obtain ⟨e, A, c, D, hc, hk, hok⟩ := open_expr8 fuel _ _ hf (by simpa [Value.cells] using hsz)
  refine ⟨e, A, c, D, ?_, hk, hok⟩
  obtain ⟨l⟩ := cs
  simp [Value.cells] at hc
  rw [hc]
end
end Go.Proofs.YtkhpgejammgolaaGreat
